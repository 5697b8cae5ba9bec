/- The calls of spot: Shares. -/
import Derived.Test.YtkcfaddilknelaaPartl
import Derived.LoopN
import Derived.Test.YtkcfaddilknelaaPartk
import Derived.Test.YtkcfaddilknelaaParti
import Derived.Test.YtkcfaddilknelaaPartj
namespace Go.Proofs.Ytkcfaddilknelaa
open Go.RowKit Go.MagM
/-- A call's answer is three right Fracs of at most L words. -/
def AnsT (w w' : World) (e : Ending) (L : Nat) (p q r : Rat) : Prop := ∃ m ao n c bo k d m2 ao2 n2 c2 bo2 k2 d2 m3 ao3 n3 c3 bo3 k3 d3, e = .returned (.agg #[.bool m, .slice ao n c, .slice bo k d, .bool m2, .slice ao2 n2 c2, .slice bo2 k2 d2, .bool m3, .slice ao3 n3 c3, .slice bo3 k3 d3]) ∧
  RF w' (.agg #[.bool m, .slice ao n c, .slice bo k d]) L p ∧ RF w' (.agg #[.bool m2, .slice ao2 n2 c2, .slice bo2 k2 d2]) L q ∧ RF w' (.agg #[.bool m3, .slice ao3 n3 c3, .slice bo3 k3 d3]) L r ∧ Below w.heap.size w w'
set_option maxRecDepth 100000 in
set_option maxHeartbeats 32000000 in
theorem sShares_any (a0 a1 b0 b1 v0 v1 : Int) {sxm : Bool} {sxo : Option Addr} {sxn sxc : Nat} {sxp : Option Addr} {sxk sxd : Nat} {sym : Bool} {syo : Option Addr} {syn syc : Nat} {syp : Option Addr} {syk syd : Nat} (L : Nat) (sxq syq : Rat) (ha0 : InP a0) (ha1 : InP a1) (hb0 : InP b0) (hb1 : InP b1) (hv0 : InP v0) (hv1 : InP v1) (h0 : crs a0 a1 b0 b1 v0 v1 ≠ 0) (hL : L ≤ 10000) (hL1 : 1 ≤ L) (w : World) (fsx_0 : FQ w (.agg #[.bool sxm, .slice sxo sxn sxc, .slice sxp sxk sxd]) L sxq) (fsy_0 : FQ w (.agg #[.bool sym, .slice syo syn syc, .slice syp syk syd]) L syq) :
    Calls Try.prog 39 #[.agg #[.int .i64 a0, .int .i64 a1], .agg #[.int .i64 b0, .int .i64 b1], .agg #[.int .i64 v0, .int .i64 v1], .agg #[.bool sxm, .slice sxo sxn sxc, .slice sxp sxk sxd, .bool sym, .slice syo syn syc, .slice syp syk syd]] w fun e w' => AnsT w w' e ((1 + 3 * (((L + L + 2) + (L + L + 2) + 2) + 2)) + max 2 1 + 3) (areaQ [(sxq, syq), ((b0 : Rat), (b1 : Rat)), ((v0 : Rat), (v1 : Rat))] / ((crs a0 a1 b0 b1 v0 v1 : Int) : Rat)) (areaQ [((a0 : Rat), (a1 : Rat)), (sxq, syq), ((v0 : Rat), (v1 : Rat))] / ((crs a0 a1 b0 b1 v0 v1 : Int) : Rat)) (areaQ [((a0 : Rat), (a1 : Rat)), ((b0 : Rat), (b1 : Rat)), (sxq, syq)] / ((crs a0 a1 b0 b1 v0 v1 : Int) : Rat)) := by
  have hB_0 := Below.refl w.heap.size w
  have HA0 := Lib.hid ha0; have HA1 := Lib.hid ha1; have HB0 := Lib.hid hb0; have HB1 := Lib.hid hb1; have HV0 := Lib.hid hv0; have HV1 := Lib.hid hv1; have H0 := Lib.hid h0; have HL := Lib.hid hL; have HL1 := Lib.hid hL1
  clear ha0 ha1 hb0 hb1 hv0 hv1 h0 hL hL1
  obtain ⟨w1, hw1, pa_0, hb1, hs1⟩ := new_box w (w.heap.size) rfl [.int .i64 a0, .int .i64 a1] 23
  have hb1' : Below w.heap.size w w1 := hb1.mono (by omega)
  clear hb1
  have hB_1 := hB_0.trans (hb1'.mono hB_0.size)
  have fsx_1 := fsx_0.below hb1'
  have fsy_1 := fsy_0.below hb1'
  clear hb1' hB_0 fsx_0 fsy_0
  obtain ⟨w2, hw2, pb_0, hb2, hs2⟩ := new_box w1 (w.heap.size + 1) hs1 [.int .i64 b0, .int .i64 b1] 23
  have hb2' : Below w1.heap.size w1 w2 := hb2.mono (by omega)
  clear hb2
  have hB_2 := hB_1.trans (hb2'.mono hB_1.size)
  have fsx_2 := fsx_1.below hb2'
  have fsy_2 := fsy_1.below hb2'
  have pa_1 := pa_0.below hb2'
  clear hb2' hB_1 fsx_1 fsy_1 pa_0
  obtain ⟨w3, hw3, pv_0, hb3, hs3⟩ := new_box w2 (w.heap.size + 1 + 1) hs2 [.int .i64 v0, .int .i64 v1] 23
  have hb3' : Below w2.heap.size w2 w3 := hb3.mono (by omega)
  clear hb3
  have hB_3 := hB_2.trans (hb3'.mono hB_2.size)
  have fsx_3 := fsx_2.below hb3'
  have fsy_3 := fsy_2.below hb3'
  have pa_2 := pa_1.below hb3'
  have pb_1 := pb_0.below hb3'
  clear hb3' hB_2 fsx_2 fsy_2 pa_1 pb_0
  obtain ⟨w4, hw4, ps_0, hb4, hs4⟩ := new_box w3 (w.heap.size + 1 + 1 + 1) hs3 [.bool sxm, .slice sxo sxn sxc, .slice sxp sxk sxd, .bool sym, .slice syo syn syc, .slice syp syk syd] 33
  have hb4' : Below w3.heap.size w3 w4 := hb4.mono (by omega)
  clear hb4
  have hB_4 := hB_3.trans (hb4'.mono hB_3.size)
  have fsx_4 := fsx_3.below hb4'
  have fsy_4 := fsy_3.below hb4'
  have pa_3 := pa_2.below hb4'
  have pb_2 := pb_1.below hb4'
  have pv_1 := pv_0.below hb4'
  clear hb4' hB_3 fsx_3 fsy_3 pa_2 pb_1 pv_0
  obtain ⟨w5, hw5, pr_0, hb5, hs5⟩ := new_box w4 (w.heap.size + 1 + 1 + 1 + 1) hs4 [.bool false, .slice none 0 0, .slice none 0 0, .bool false, .slice none 0 0, .slice none 0 0, .bool false, .slice none 0 0, .slice none 0 0] 66
  have hb5' : Below w4.heap.size w4 w5 := hb5.mono (by omega)
  clear hb5
  have hB_5 := hB_4.trans (hb5'.mono hB_4.size)
  have fsx_5 := fsx_4.below hb5'
  have fsy_5 := fsy_4.below hb5'
  have pa_4 := pa_3.below hb5'
  have pb_3 := pb_2.below hb5'
  have pv_2 := pv_1.below hb5'
  have ps_1 := ps_0.below hb5'
  clear hb5' hB_4 fsx_4 fsy_4 pa_3 pb_2 pv_1 ps_0
  go_enter Try.func39, Try.ntmps39
  obtain ⟨pae0, pae1, pae2, pae3⟩ := pa_4.open2
  obtain ⟨pbe0, pbe1, pbe2, pbe3⟩ := pb_3.open2
  obtain ⟨pve0, pve1, pve2, pve3⟩ := pv_2.open2
  go_wp2
  clear pae0 pae1 pae2 pae3 pbe0 pbe1 pbe2 pbe3 pve0 pve1 pve2 pve3
  have hWi_0 := Below.refl w5.heap.size w5
  have hsi : w.heap.size ≤ w5.heap.size := hB_5.size
  have hlipa := pa_4.lt
  have hlipb := pb_3.lt
  have hlipv := pv_2.lt
  have hlips := ps_1.lt
  have hlipr := pr_0.lt
  have hB_6 := hB_5.drew'
  have fsx_6 := fsx_5.drew
  have fsy_6 := fsy_5.drew
  have pa_5 := pa_4.drew
  have pb_4 := pb_3.drew
  have pv_3 := pv_2.drew
  have ps_2 := ps_1.drew
  have pr_1 := pr_0.drew
  have hWi_1 := hWi_0.drew'
  clear hB_5 fsx_5 fsy_5 pa_4 pb_3 pv_2 ps_1 pr_0 hWi_0
  obtain ⟨FFi, hFFi⟩ : ∃ F : World → Prop, ∀ w', F w' ↔ (Below w.heap.size w w' ∧ FQ w' (.agg #[.bool sxm, .slice sxo sxn sxc, .slice sxp sxk sxd]) L sxq ∧ FQ w' (.agg #[.bool sym, .slice syo syn syc, .slice syp syk syd]) L syq ∧ Box w' (w.heap.size) [.int .i64 a0, .int .i64 a1] ∧ Box w' (w.heap.size + 1) [.int .i64 b0, .int .i64 b1] ∧ Box w' (w.heap.size + 1 + 1) [.int .i64 v0, .int .i64 v1] ∧ Box w' (w.heap.size + 1 + 1 + 1) [.bool sxm, .slice sxo sxn sxc, .slice sxp sxk sxd, .bool sym, .slice syo syn syc, .slice syp syk syd] ∧ Box w' (w.heap.size + 1 + 1 + 1 + 1) [.bool false, .slice none 0 0, .slice none 0 0, .bool false, .slice none 0 0, .slice none 0 0, .bool false, .slice none 0 0, .slice none 0 0] ∧ Below w5.heap.size w5 w') := ⟨_, fun _ => Iff.rfl⟩
  have cFi : ∀ {w' w'' : World}, FFi w' → Below w'.heap.size w' w'' → FFi w'' := by
    intro w' w'' h hb
    obtain ⟨y0, y1, y2, y3, y4, y5, y6, y7, y8⟩ := (hFFi _).1 h
    exact (hFFi _).2 ⟨y0.trans (hb.mono y0.size), y1.below hb, y2.below hb, y3.below hb, y4.below hb, y5.below hb, y6.below hb, y7.below hb, y8.trans (hb.mono y8.size)⟩
  have mFi : ∀ {w' : World}, FFi w' → w5.heap.size ≤ w'.heap.size := by
    intro w' h
    obtain ⟨y0, y1, y2, y3, y4, y5, y6, y7, y8⟩ := (hFFi _).1 h
    exact y8.size
  have sFi : ∀ {w' : World}, FFi w' → (w'.cell? ⟨w.heap.size, 0, none⟩ = some (.int .i64 a0) ∧ w'.cell? ⟨w.heap.size, 1, none⟩ = some (.int .i64 a1) ∧ w'.cell? ⟨w.heap.size + 1, 0, none⟩ = some (.int .i64 b0) ∧ w'.cell? ⟨w.heap.size + 1, 1, none⟩ = some (.int .i64 b1) ∧ w'.cell? ⟨w.heap.size + 1 + 1, 0, none⟩ = some (.int .i64 v0) ∧ w'.cell? ⟨w.heap.size + 1 + 1, 1, none⟩ = some (.int .i64 v1)) := by
    intro w' h
    obtain ⟨y0, y1, y2, y3, y4, y5, y6, y7, y8⟩ := (hFFi _).1 h
    exact ⟨y3.c0, y3.c1, y4.c0, y4.c1, y5.c0, y5.c1⟩
  have zF : FFi w5.drew := (hFFi _).2 ⟨hB_6, fsx_6, fsy_6, pa_5, pb_4, pv_3, ps_2, pr_1, hWi_1⟩
  clear hB_6 fsx_6 fsy_6 pa_5 pb_4 pv_3 ps_2 pr_1 hWi_1
  refine wp_region_noPanic ?_
  refine wp_region_held_drew (S := fun w' => w'.cell? ⟨w.heap.size, 0, none⟩ = some (.int .i64 a0) ∧ w'.cell? ⟨w.heap.size, 1, none⟩ = some (.int .i64 a1) ∧ w'.cell? ⟨w.heap.size + 1, 0, none⟩ = some (.int .i64 b0) ∧ w'.cell? ⟨w.heap.size + 1, 1, none⟩ = some (.int .i64 b1) ∧ w'.cell? ⟨w.heap.size + 1 + 1, 0, none⟩ = some (.int .i64 v0) ∧ w'.cell? ⟨w.heap.size + 1 + 1, 1, none⟩ = some (.int .i64 v1)) (by kernel_rfl) (sFi zF) (fun hHeld => ?_)
  refine reg_take 0 ?_ ?_ ?_ (by kernel_rfl) (by kernel_rfl) (by kernel_rfl) (fun _ _ _ h => h) ?_ ?_ (by assumption) ?_
  rotate_left 2
  · simp only [List.getElem?_toArray, List.getElem?_cons_zero]; exact rfl
  · rfl
  · intro w hSw; (try dsimp only at hSw); go_simp; try with_reducible rfl
  try simp only [Act.put]
  try simp only [List.setIfInBounds_toArray, List.set_cons_zero, List.set_cons_succ]
  refine reg_take 2 ?_ ?_ ?_ (by kernel_rfl) (by kernel_rfl) (by kernel_rfl) (fun _ _ _ h => h) ?_ ?_ (by assumption) ?_
  rotate_left 2
  · simp only [List.getElem?_toArray, List.getElem?_cons_succ, List.getElem?_cons_zero]; exact rfl
  · rfl
  · intro w hSw; (try dsimp only at hSw); go_simp; try with_reducible rfl
  try simp only [Act.put]
  try simp only [List.setIfInBounds_toArray, List.set_cons_zero, List.set_cons_succ]
  refine reg_take 4 ?_ ?_ ?_ (by kernel_rfl) (by kernel_rfl) (by kernel_rfl) (fun _ _ _ h => h) ?_ ?_ (by assumption) ?_
  rotate_left 2
  · simp only [List.getElem?_toArray, List.getElem?_cons_succ, List.getElem?_cons_zero]; exact rfl
  · rfl
  · intro w hSw; (try dsimp only at hSw); go_simp; try with_reducible rfl
  try simp only [Act.put]
  try simp only [List.setIfInBounds_toArray, List.set_cons_zero, List.set_cons_succ]
  refine reg_grab (fun WWi ai hWW hAA => ?_)
  rw [hWW]
  have HAi := Lib.hid hAA; clear hWW hAA hHeld
  obtain ⟨IVi, hIVi⟩ : ∃ IV : Array Bool → Act → World → Prop, ∀ l a w', IV l a w' ↔ ∀ CC : Prop, (∀ (lb1 lb3 lb5 lb6 lb7 : Bool) (lv1 lv3 lv5 lv6 lv7 : Value) (m1x : Bool) (o1x : Option Addr) (n1x : Nat) (c1x : Nat) (p1x : Option Addr) (k1x : Nat) (d1x : Nat) (m1y : Bool) (o1y : Option Addr) (n1y : Nat) (c1y : Nat) (p1y : Option Addr) (k1y : Nat) (d1y : Nat) (m2x : Bool) (o2x : Option Addr) (n2x : Nat) (c2x : Nat) (p2x : Option Addr) (k2x : Nat) (d2x : Nat) (m2y : Bool) (o2y : Option Addr) (n2y : Nat) (c2y : Nat) (p2y : Option Addr) (k2y : Nat) (d2y : Nat) (m3x : Bool) (o3x : Option Addr) (n3x : Nat) (c3x : Nat) (p3x : Option Addr) (k3x : Nat) (d3x : Nat) (m3y : Bool) (o3y : Option Addr) (n3y : Nat) (c3y : Nat) (p3y : Option Addr) (k3y : Nat) (d3y : Nat) (gpc : Nat), (l = #[true, lb1, true, lb3, true, lb5, lb6, lb7, false]) → (a = (((((ai.put (some 15) lv1).put (some 17) lv3).put (some 19) lv5).put (some 20) lv6).put (some 9) lv7)) → (FFi w') → ((lb1 = true → lv1 = .agg #[.bool m1x, .slice o1x n1x c1x, .slice p1x k1x d1x, .bool m1y, .slice o1y n1y c1y, .slice p1y k1y d1y] ∧ RF w' (.agg #[.bool m1x, .slice o1x n1x c1x, .slice p1x k1x d1x]) (1) ((a0 : Rat)) ∧ RF w' (.agg #[.bool m1y, .slice o1y n1y c1y, .slice p1y k1y d1y]) (1) ((a1 : Rat)))) → ((lb3 = true → lv3 = .agg #[.bool m2x, .slice o2x n2x c2x, .slice p2x k2x d2x, .bool m2y, .slice o2y n2y c2y, .slice p2y k2y d2y] ∧ RF w' (.agg #[.bool m2x, .slice o2x n2x c2x, .slice p2x k2x d2x]) (1) ((b0 : Rat)) ∧ RF w' (.agg #[.bool m2y, .slice o2y n2y c2y, .slice p2y k2y d2y]) (1) ((b1 : Rat)))) → ((lb5 = true → lv5 = .agg #[.bool m3x, .slice o3x n3x c3x, .slice p3x k3x d3x, .bool m3y, .slice o3y n3y c3y, .slice p3y k3y d3y] ∧ RF w' (.agg #[.bool m3x, .slice o3x n3x c3x, .slice p3x k3x d3x]) (1) ((v0 : Rat)) ∧ RF w' (.agg #[.bool m3y, .slice o3y n3y c3y, .slice p3y k3y d3y]) (1) ((v1 : Rat)))) → ((lb6 = true → lv6 = .agg #[.bool m1x, .slice o1x n1x c1x, .slice p1x k1x d1x, .bool m1y, .slice o1y n1y c1y, .slice p1y k1y d1y, .bool m2x, .slice o2x n2x c2x, .slice p2x k2x d2x, .bool m2y, .slice o2y n2y c2y, .slice p2y k2y d2y, .bool m3x, .slice o3x n3x c3x, .slice p3x k3x d3x, .bool m3y, .slice o3y n3y c3y, .slice p3y k3y d3y])) → ((lb7 = true → lv7 = .pointer (some ⟨gpc, 0, none⟩) ∧ Box w' gpc [.bool false, .slice none 0 0, .slice none 0 0, .bool false, .slice none 0 0, .slice none 0 0, .bool false, .slice none 0 0, .slice none 0 0, .bool false, .slice none 0 0, .slice none 0 0, .bool false, .slice none 0 0, .slice none 0 0, .bool false, .slice none 0 0, .slice none 0 0] ∧ w5.heap.size ≤ gpc)) → ((lb3 = true → lb1 = true)) → ((lb5 = true → lb3 = true)) → ((lb6 = true → lb1 = true)) → ((lb6 = true → lb3 = true)) → ((lb6 = true → lb5 = true)) → CC) → CC := ⟨_, fun _ _ _ => Iff.rfl⟩
  refine wpAnyH_until IVi ?_ _ _ _ _ ((hIVi _ _ _).2 (fun CC kk => kk false false false false false (ai.tmps.getD 15 undef) (ai.tmps.getD 17 undef) (ai.tmps.getD 19 undef) (ai.tmps.getD 20 undef) (ai.tmps.getD 9 undef) false none 0 0 none 0 0 false none 0 0 none 0 0 false none 0 0 none 0 0 false none 0 0 none 0 0 false none 0 0 none 0 0 false none 0 0 none 0 0 0 rfl (by simp only [put_same]) zF (fun h => by cases h) (fun h => by cases h) (fun h => by cases h) (fun h => by cases h) (fun h => by cases h) (fun h => by cases h) (fun h => by cases h) (fun h => by cases h) (fun h => by cases h) (fun h => by cases h))) (by kernel_rfl)
  clear zF
  intro ll aa w6 hI
  refine (hIVi _ _ _).1 hI _ ?_
  clear hI
  intro lb1 lb3 lb5 lb6 lb7 lv1 lv3 lv5 lv6 lv7 m1x o1x n1x c1x p1x k1x d1x m1y o1y n1y c1y p1y k1y d1y m2x o2x n2x c2x p2x k2x d2x m2y o2y n2y c2y p2y k2y d2y m3x o3x n3x c3x p3x k3x d3x m3y o3y n3y c3y p3y k3y d3y gpc hll haa zF F1 F3 F5 F6 F7 dp3_1 dp5_3 dp6_1 dp6_3 dp6_5
  subst hll haa
  by_cases hL : lb1 = true ∧ lb3 = true ∧ lb5 = true ∧ lb6 = true ∧ lb7 = true
  · left
    obtain ⟨rfl, rfl, rfl, rfl, rfl⟩ := hL
    obtain ⟨rfl, f1x_0, f1y_0⟩ := F1 rfl
    clear F1
    obtain ⟨rfl, f2x_0, f2y_0⟩ := F3 rfl
    clear F3
    obtain ⟨rfl, f3x_0, f3y_0⟩ := F5 rfl
    clear F5
    obtain rfl := F6 rfl
    clear F6
    obtain ⟨rfl, pc_0, hgpc⟩ := F7 rfl
    clear F7
    clear dp3_1 dp5_3 dp6_1 dp6_3 dp6_5
    show wpAnyH _ _ _ _ _ 1 _ _ _
    rw [HAi.out]
    try simp only [Act.put]
    try simp only [List.setIfInBounds_toArray, List.set_cons_zero, List.set_cons_succ]
    obtain ⟨hB_0, fsx_0, fsy_0, pa_0, pb_0, pv_0, ps_0, pr_0, hWi_0⟩ := (hFFi _).1 zF
    clear zF
    clear hWi_0
    refine reg_call 8 ?_ (by kernel_rfl) ?_ (fun K hK => ?_)
    rotate_left 1
    · simp only [List.getElem?_toArray, List.getElem?_cons_succ, List.getElem?_cons_zero]; exact rfl
    obtain ⟨w7, hslw7⟩ : ∃ q, Go.MagM.setAll w6 (gpc) 0 [.bool m1x, .slice o1x n1x c1x, .slice p1x k1x d1x, .bool m1y, .slice o1y n1y c1y, .slice p1y k1y d1y, .bool m2x, .slice o2x n2x c2x, .slice p2x k2x d2x, .bool m2y, .slice o2y n2y c2y, .slice p2y k2y d2y, .bool m3x, .slice o3x n3x c3x, .slice p3x k3x d3x, .bool m3y, .slice o3y n3y c3y, .slice p3y k3y d3y] = q := ⟨_, rfl⟩
    have hB_1 := below_setFrom (g := gpc) (by omega) [.bool m1x, .slice o1x n1x c1x, .slice p1x k1x d1x, .bool m1y, .slice o1y n1y c1y, .slice p1y k1y d1y, .bool m2x, .slice o2x n2x c2x, .slice p2x k2x d2x, .bool m2y, .slice o2y n2y c2y, .slice p2y k2y d2y, .bool m3x, .slice o3x n3x c3x, .slice p3x k3x d3x, .bool m3y, .slice o3y n3y c3y, .slice p3y k3y d3y] 0 hB_0
    rw [hslw7] at hB_1
    have fsx_1 := fsx_0.kept (Kept.setPart pc_0 (noWordB _ rfl) 0 [.bool m1x, .slice o1x n1x c1x, .slice p1x k1x d1x, .bool m1y, .slice o1y n1y c1y, .slice p1y k1y d1y, .bool m2x, .slice o2x n2x c2x, .slice p2x k2x d2x, .bool m2y, .slice o2y n2y c2y, .slice p2y k2y d2y, .bool m3x, .slice o3x n3x c3x, .slice p3x k3x d3x, .bool m3y, .slice o3y n3y c3y, .slice p3y k3y d3y] (by simp))
    rw [hslw7] at fsx_1
    have fsy_1 := fsy_0.kept (Kept.setPart pc_0 (noWordB _ rfl) 0 [.bool m1x, .slice o1x n1x c1x, .slice p1x k1x d1x, .bool m1y, .slice o1y n1y c1y, .slice p1y k1y d1y, .bool m2x, .slice o2x n2x c2x, .slice p2x k2x d2x, .bool m2y, .slice o2y n2y c2y, .slice p2y k2y d2y, .bool m3x, .slice o3x n3x c3x, .slice p3x k3x d3x, .bool m3y, .slice o3y n3y c3y, .slice p3y k3y d3y] (by simp))
    rw [hslw7] at fsy_1
    have pa_1 := Box.farFrom (g' := gpc) (by omega) [.bool m1x, .slice o1x n1x c1x, .slice p1x k1x d1x, .bool m1y, .slice o1y n1y c1y, .slice p1y k1y d1y, .bool m2x, .slice o2x n2x c2x, .slice p2x k2x d2x, .bool m2y, .slice o2y n2y c2y, .slice p2y k2y d2y, .bool m3x, .slice o3x n3x c3x, .slice p3x k3x d3x, .bool m3y, .slice o3y n3y c3y, .slice p3y k3y d3y] 0 pa_0
    rw [hslw7] at pa_1
    have pb_1 := Box.farFrom (g' := gpc) (by omega) [.bool m1x, .slice o1x n1x c1x, .slice p1x k1x d1x, .bool m1y, .slice o1y n1y c1y, .slice p1y k1y d1y, .bool m2x, .slice o2x n2x c2x, .slice p2x k2x d2x, .bool m2y, .slice o2y n2y c2y, .slice p2y k2y d2y, .bool m3x, .slice o3x n3x c3x, .slice p3x k3x d3x, .bool m3y, .slice o3y n3y c3y, .slice p3y k3y d3y] 0 pb_0
    rw [hslw7] at pb_1
    have pv_1 := Box.farFrom (g' := gpc) (by omega) [.bool m1x, .slice o1x n1x c1x, .slice p1x k1x d1x, .bool m1y, .slice o1y n1y c1y, .slice p1y k1y d1y, .bool m2x, .slice o2x n2x c2x, .slice p2x k2x d2x, .bool m2y, .slice o2y n2y c2y, .slice p2y k2y d2y, .bool m3x, .slice o3x n3x c3x, .slice p3x k3x d3x, .bool m3y, .slice o3y n3y c3y, .slice p3y k3y d3y] 0 pv_0
    rw [hslw7] at pv_1
    have ps_1 := Box.farFrom (g' := gpc) (by omega) [.bool m1x, .slice o1x n1x c1x, .slice p1x k1x d1x, .bool m1y, .slice o1y n1y c1y, .slice p1y k1y d1y, .bool m2x, .slice o2x n2x c2x, .slice p2x k2x d2x, .bool m2y, .slice o2y n2y c2y, .slice p2y k2y d2y, .bool m3x, .slice o3x n3x c3x, .slice p3x k3x d3x, .bool m3y, .slice o3y n3y c3y, .slice p3y k3y d3y] 0 ps_0
    rw [hslw7] at ps_1
    have pr_1 := Box.farFrom (g' := gpc) (by omega) [.bool m1x, .slice o1x n1x c1x, .slice p1x k1x d1x, .bool m1y, .slice o1y n1y c1y, .slice p1y k1y d1y, .bool m2x, .slice o2x n2x c2x, .slice p2x k2x d2x, .bool m2y, .slice o2y n2y c2y, .slice p2y k2y d2y, .bool m3x, .slice o3x n3x c3x, .slice p3x k3x d3x, .bool m3y, .slice o3y n3y c3y, .slice p3y k3y d3y] 0 pr_0
    rw [hslw7] at pr_1
    have f1x_1 := f1x_0.kept (Kept.setPart pc_0 (noWordB _ rfl) 0 [.bool m1x, .slice o1x n1x c1x, .slice p1x k1x d1x, .bool m1y, .slice o1y n1y c1y, .slice p1y k1y d1y, .bool m2x, .slice o2x n2x c2x, .slice p2x k2x d2x, .bool m2y, .slice o2y n2y c2y, .slice p2y k2y d2y, .bool m3x, .slice o3x n3x c3x, .slice p3x k3x d3x, .bool m3y, .slice o3y n3y c3y, .slice p3y k3y d3y] (by simp))
    rw [hslw7] at f1x_1
    have f1y_1 := f1y_0.kept (Kept.setPart pc_0 (noWordB _ rfl) 0 [.bool m1x, .slice o1x n1x c1x, .slice p1x k1x d1x, .bool m1y, .slice o1y n1y c1y, .slice p1y k1y d1y, .bool m2x, .slice o2x n2x c2x, .slice p2x k2x d2x, .bool m2y, .slice o2y n2y c2y, .slice p2y k2y d2y, .bool m3x, .slice o3x n3x c3x, .slice p3x k3x d3x, .bool m3y, .slice o3y n3y c3y, .slice p3y k3y d3y] (by simp))
    rw [hslw7] at f1y_1
    have f2x_1 := f2x_0.kept (Kept.setPart pc_0 (noWordB _ rfl) 0 [.bool m1x, .slice o1x n1x c1x, .slice p1x k1x d1x, .bool m1y, .slice o1y n1y c1y, .slice p1y k1y d1y, .bool m2x, .slice o2x n2x c2x, .slice p2x k2x d2x, .bool m2y, .slice o2y n2y c2y, .slice p2y k2y d2y, .bool m3x, .slice o3x n3x c3x, .slice p3x k3x d3x, .bool m3y, .slice o3y n3y c3y, .slice p3y k3y d3y] (by simp))
    rw [hslw7] at f2x_1
    have f2y_1 := f2y_0.kept (Kept.setPart pc_0 (noWordB _ rfl) 0 [.bool m1x, .slice o1x n1x c1x, .slice p1x k1x d1x, .bool m1y, .slice o1y n1y c1y, .slice p1y k1y d1y, .bool m2x, .slice o2x n2x c2x, .slice p2x k2x d2x, .bool m2y, .slice o2y n2y c2y, .slice p2y k2y d2y, .bool m3x, .slice o3x n3x c3x, .slice p3x k3x d3x, .bool m3y, .slice o3y n3y c3y, .slice p3y k3y d3y] (by simp))
    rw [hslw7] at f2y_1
    have f3x_1 := f3x_0.kept (Kept.setPart pc_0 (noWordB _ rfl) 0 [.bool m1x, .slice o1x n1x c1x, .slice p1x k1x d1x, .bool m1y, .slice o1y n1y c1y, .slice p1y k1y d1y, .bool m2x, .slice o2x n2x c2x, .slice p2x k2x d2x, .bool m2y, .slice o2y n2y c2y, .slice p2y k2y d2y, .bool m3x, .slice o3x n3x c3x, .slice p3x k3x d3x, .bool m3y, .slice o3y n3y c3y, .slice p3y k3y d3y] (by simp))
    rw [hslw7] at f3x_1
    have f3y_1 := f3y_0.kept (Kept.setPart pc_0 (noWordB _ rfl) 0 [.bool m1x, .slice o1x n1x c1x, .slice p1x k1x d1x, .bool m1y, .slice o1y n1y c1y, .slice p1y k1y d1y, .bool m2x, .slice o2x n2x c2x, .slice p2x k2x d2x, .bool m2y, .slice o2y n2y c2y, .slice p2y k2y d2y, .bool m3x, .slice o3x n3x c3x, .slice p3x k3x d3x, .bool m3y, .slice o3y n3y c3y, .slice p3y k3y d3y] (by simp))
    rw [hslw7] at f3y_1
    have pc_1 := pc_0.setAll [.bool m1x, .slice o1x n1x c1x, .slice p1x k1x d1x, .bool m1y, .slice o1y n1y c1y, .slice p1y k1y d1y, .bool m2x, .slice o2x n2x c2x, .slice p2x k2x d2x, .bool m2y, .slice o2y n2y c2y, .slice p2y k2y d2y, .bool m3x, .slice o3x n3x c3x, .slice p3x k3x d3x, .bool m3y, .slice o3y n3y c3y, .slice p3y k3y d3y] rfl
    rw [hslw7] at pc_1
    refine wanted_go rfl ?_
    refine wp_store_box _ _ _ rfl [.bool m1x, .slice o1x n1x c1x, .slice p1x k1x d1x, .bool m1y, .slice o1y n1y c1y, .slice p1y k1y d1y, .bool m2x, .slice o2x n2x c2x, .slice p2x k2x d2x, .bool m2y, .slice o2y n2y c2y, .slice p2y k2y d2y, .bool m3x, .slice o3x n3x c3x, .slice p3x k3x d3x, .bool m3y, .slice o3y n3y c3y, .slice p3y k3y d3y] pc_0 rfl rfl (by kernel_rfl) (by simp) rfl hslw7 ?_
    clear hslw7 hB_0 fsx_0 fsy_0 pa_0 pb_0 pv_0 ps_0 pr_0 f1x_0 f1y_0 f2x_0 f2y_0 f3x_0 f3y_0 pc_0
    refine hK.out _ _ ⟨pa_1.c0, pa_1.c1, pb_1.c0, pb_1.c1, pv_1.c0, pv_1.c1⟩ (fun hHeld => ?_)
    clear hK K
    try simp only [Act.put]
    try simp only [List.setIfInBounds_toArray, List.set_cons_zero, List.set_cons_succ]
    refine wpAnyH_done (by kernel_rfl) ?_ _
    refine NoPanic.normal ?_
    obtain ⟨pae0, pae1, pae2, pae3⟩ := pa_1.open2
    obtain ⟨pbe0, pbe1, pbe2, pbe3⟩ := pb_1.open2
    obtain ⟨pve0, pve1, pve2, pve3⟩ := pv_1.open2
    go_wp2_with fail
    refine (Area2_any a0 a1 b0 b1 v0 v1 HA0.out HA1.out HB0.out HB1.out HV0.out HV1.out _).mono ?_
    rintro e w8 ⟨m4, o4, n4, c4, rfl, f4_0, hb8⟩
    clear pae0 pae1 pae2 pae3 pbe0 pbe1 pbe2 pbe3 pve0 pve1 pve2 pve3
    have hB_2 := hB_1.trans (hb8.mono hB_1.size)
    have fsx_2 := fsx_1.below hb8
    have fsy_2 := fsy_1.below hb8
    have pa_2 := pa_1.below hb8
    have pb_2 := pb_1.below hb8
    have pv_2 := pv_1.below hb8
    have ps_2 := ps_1.below hb8
    have pr_2 := pr_1.below hb8
    have f1x_2 := f1x_1.below hb8
    have f1y_2 := f1y_1.below hb8
    have f2x_2 := f2x_1.below hb8
    have f2y_2 := f2y_1.below hb8
    have f3x_2 := f3x_1.below hb8
    have f3y_2 := f3y_1.below hb8
    have pc_2 := pc_1.below hb8
    clear hb8 hB_1 fsx_1 fsy_1 pa_1 pb_1 pv_1 ps_1 pr_1 f1x_1 f1y_1 f2x_1 f2y_1 f3x_1 f3y_1 pc_1
    go_wp2_with fail
    refine (Whole_any _ 2 _ _ (by omega) f4_0.num).mono ?_
    rintro e w9 ⟨m5, o5, n5, c5, p5, k5, d5, rfl, f5_0, hb9⟩
    have hB_3 := hB_2.trans (hb9.mono hB_2.size)
    have fsx_3 := fsx_2.below hb9
    have fsy_3 := fsy_2.below hb9
    have pa_3 := pa_2.below hb9
    have pb_3 := pb_2.below hb9
    have pv_3 := pv_2.below hb9
    have ps_3 := ps_2.below hb9
    have pr_3 := pr_2.below hb9
    have f1x_3 := f1x_2.below hb9
    have f1y_3 := f1y_2.below hb9
    have f2x_3 := f2x_2.below hb9
    have f2y_3 := f2y_2.below hb9
    have f3x_3 := f3x_2.below hb9
    have f3y_3 := f3y_2.below hb9
    have pc_3 := pc_2.below hb9
    have f4_1 := f4_0.below hb9
    clear hb9 hB_2 fsx_2 fsy_2 pa_2 pb_2 pv_2 ps_2 pr_2 f1x_2 f1y_2 f2x_2 f2y_2 f3x_2 f3y_2 pc_2 f4_0
    clear f4_1
    have hl1pa := pa_3.lt
    have hl1pb := pb_3.lt
    have hl1pv := pv_3.lt
    have hl1ps := ps_3.lt
    have hl1pr := pr_3.lt
    have hl1pc := pc_3.lt
    have hl1B := hB_3.size
    obtain ⟨w10, hw10, pw_0, hb10, hs10⟩ := new_box w9 (w9.heap.size) rfl [.bool m5, .slice o5 n5 c5, .slice p5 k5 d5] 31
    have hb10' : Below w9.heap.size w9 w10 := hb10.mono (by omega)
    clear hb10
    have hB_4 := hB_3.trans (hb10'.mono hB_3.size)
    have fsx_4 := fsx_3.below hb10'
    have fsy_4 := fsy_3.below hb10'
    have pa_4 := pa_3.below hb10'
    have pb_4 := pb_3.below hb10'
    have pv_4 := pv_3.below hb10'
    have ps_4 := ps_3.below hb10'
    have pr_4 := pr_3.below hb10'
    have f1x_4 := f1x_3.below hb10'
    have f1y_4 := f1y_3.below hb10'
    have f2x_4 := f2x_3.below hb10'
    have f2y_4 := f2y_3.below hb10'
    have f3x_4 := f3x_3.below hb10'
    have f3y_4 := f3y_3.below hb10'
    have pc_4 := pc_3.below hb10'
    have f5_1 := f5_0.below hb10'
    clear hb10' hB_3 fsx_3 fsy_3 pa_3 pb_3 pv_3 ps_3 pr_3 f1x_3 f1y_3 f2x_3 f2y_3 f3x_3 f3y_3 pc_3 f5_0
    obtain ⟨w11, hw11, po_0, hb11, hs11⟩ := new_box w10 (w9.heap.size + 1) hs10 [.bool false, .slice none 0 0, .slice none 0 0, .bool false, .slice none 0 0, .slice none 0 0, .bool false, .slice none 0 0, .slice none 0 0] 66
    have hb11' : Below w10.heap.size w10 w11 := hb11.mono (by omega)
    clear hb11
    have hB_5 := hB_4.trans (hb11'.mono hB_4.size)
    have fsx_5 := fsx_4.below hb11'
    have fsy_5 := fsy_4.below hb11'
    have pa_5 := pa_4.below hb11'
    have pb_5 := pb_4.below hb11'
    have pv_5 := pv_4.below hb11'
    have ps_5 := ps_4.below hb11'
    have pr_5 := pr_4.below hb11'
    have f1x_5 := f1x_4.below hb11'
    have f1y_5 := f1y_4.below hb11'
    have f2x_5 := f2x_4.below hb11'
    have f2y_5 := f2y_4.below hb11'
    have f3x_5 := f3x_4.below hb11'
    have f3y_5 := f3y_4.below hb11'
    have pc_5 := pc_4.below hb11'
    have f5_2 := f5_1.below hb11'
    have pw_1 := pw_0.below hb11'
    clear hb11' hB_4 fsx_4 fsy_4 pa_4 pb_4 pv_4 ps_4 pr_4 f1x_4 f1y_4 f2x_4 f2y_4 f3x_4 f3y_4 pc_4 f5_1 pw_0
    go_wp2
    try rw [hw10]
    try rw [hw11]
    clear hs1 hs2 hs3 hs4 hs5 hs10 hs11
    refine wp_loop_rounds 4 ?_
    rw [rounds_succ]
    have hpcA := pc_5
    have hl2pa := pa_5.lt
    have hl2pb := pb_5.lt
    have hl2pv := pv_5.lt
    have hl2ps := ps_5.lt
    have hl2pr := pr_5.lt
    have hl2pc := pc_5.lt
    have hl2pw := pw_1.lt
    have hl2po := po_0.lt
    have hl2B := hB_5.size
    obtain ⟨w12, hw12, pp0_0, hb12, hs12⟩ := new_box w11 (w11.heap.size) rfl [.bool false, .slice none 0 0, .slice none 0 0, .bool false, .slice none 0 0, .slice none 0 0, .bool false, .slice none 0 0, .slice none 0 0, .bool false, .slice none 0 0, .slice none 0 0, .bool false, .slice none 0 0, .slice none 0 0, .bool false, .slice none 0 0, .slice none 0 0] 97
    have hb12' : Below w11.heap.size w11 w12 := hb12.mono (by omega)
    clear hb12
    have hB_6 := hB_5.trans (hb12'.mono hB_5.size)
    have fsx_6 := fsx_5.below hb12'
    have fsy_6 := fsy_5.below hb12'
    have pa_6 := pa_5.below hb12'
    have pb_6 := pb_5.below hb12'
    have pv_6 := pv_5.below hb12'
    have ps_6 := ps_5.below hb12'
    have pr_6 := pr_5.below hb12'
    have f1x_6 := f1x_5.below hb12'
    have f1y_6 := f1y_5.below hb12'
    have f2x_6 := f2x_5.below hb12'
    have f2y_6 := f2y_5.below hb12'
    have f3x_6 := f3x_5.below hb12'
    have f3y_6 := f3y_5.below hb12'
    have pc_6 := pc_5.below hb12'
    have f5_3 := f5_2.below hb12'
    have pw_2 := pw_1.below hb12'
    have po_1 := po_0.below hb12'
    clear hb12' hB_5 fsx_5 fsy_5 pa_5 pb_5 pv_5 ps_5 pr_5 f1x_5 f1y_5 f2x_5 f2y_5 f3x_5 f3y_5 pc_5 f5_2 pw_1 po_0
    clear hs12
    obtain ⟨w13, hslw13⟩ : ∃ q, Go.MagM.setAll w12 (w11.heap.size) 0 [.bool m1x, .slice o1x n1x c1x, .slice p1x k1x d1x, .bool m1y, .slice o1y n1y c1y, .slice p1y k1y d1y, .bool m2x, .slice o2x n2x c2x, .slice p2x k2x d2x, .bool m2y, .slice o2y n2y c2y, .slice p2y k2y d2y, .bool m3x, .slice o3x n3x c3x, .slice p3x k3x d3x, .bool m3y, .slice o3y n3y c3y, .slice p3y k3y d3y] = q := ⟨_, rfl⟩
    have hB_7 := below_setFrom (g := w11.heap.size) (by omega) [.bool m1x, .slice o1x n1x c1x, .slice p1x k1x d1x, .bool m1y, .slice o1y n1y c1y, .slice p1y k1y d1y, .bool m2x, .slice o2x n2x c2x, .slice p2x k2x d2x, .bool m2y, .slice o2y n2y c2y, .slice p2y k2y d2y, .bool m3x, .slice o3x n3x c3x, .slice p3x k3x d3x, .bool m3y, .slice o3y n3y c3y, .slice p3y k3y d3y] 0 hB_6
    rw [hslw13] at hB_7
    have fsx_7 := fsx_6.kept (Kept.setPart pp0_0 (noWordB _ rfl) 0 [.bool m1x, .slice o1x n1x c1x, .slice p1x k1x d1x, .bool m1y, .slice o1y n1y c1y, .slice p1y k1y d1y, .bool m2x, .slice o2x n2x c2x, .slice p2x k2x d2x, .bool m2y, .slice o2y n2y c2y, .slice p2y k2y d2y, .bool m3x, .slice o3x n3x c3x, .slice p3x k3x d3x, .bool m3y, .slice o3y n3y c3y, .slice p3y k3y d3y] (by simp))
    rw [hslw13] at fsx_7
    have fsy_7 := fsy_6.kept (Kept.setPart pp0_0 (noWordB _ rfl) 0 [.bool m1x, .slice o1x n1x c1x, .slice p1x k1x d1x, .bool m1y, .slice o1y n1y c1y, .slice p1y k1y d1y, .bool m2x, .slice o2x n2x c2x, .slice p2x k2x d2x, .bool m2y, .slice o2y n2y c2y, .slice p2y k2y d2y, .bool m3x, .slice o3x n3x c3x, .slice p3x k3x d3x, .bool m3y, .slice o3y n3y c3y, .slice p3y k3y d3y] (by simp))
    rw [hslw13] at fsy_7
    have pa_7 := Box.farFrom (g' := w11.heap.size) (by omega) [.bool m1x, .slice o1x n1x c1x, .slice p1x k1x d1x, .bool m1y, .slice o1y n1y c1y, .slice p1y k1y d1y, .bool m2x, .slice o2x n2x c2x, .slice p2x k2x d2x, .bool m2y, .slice o2y n2y c2y, .slice p2y k2y d2y, .bool m3x, .slice o3x n3x c3x, .slice p3x k3x d3x, .bool m3y, .slice o3y n3y c3y, .slice p3y k3y d3y] 0 pa_6
    rw [hslw13] at pa_7
    have pb_7 := Box.farFrom (g' := w11.heap.size) (by omega) [.bool m1x, .slice o1x n1x c1x, .slice p1x k1x d1x, .bool m1y, .slice o1y n1y c1y, .slice p1y k1y d1y, .bool m2x, .slice o2x n2x c2x, .slice p2x k2x d2x, .bool m2y, .slice o2y n2y c2y, .slice p2y k2y d2y, .bool m3x, .slice o3x n3x c3x, .slice p3x k3x d3x, .bool m3y, .slice o3y n3y c3y, .slice p3y k3y d3y] 0 pb_6
    rw [hslw13] at pb_7
    have pv_7 := Box.farFrom (g' := w11.heap.size) (by omega) [.bool m1x, .slice o1x n1x c1x, .slice p1x k1x d1x, .bool m1y, .slice o1y n1y c1y, .slice p1y k1y d1y, .bool m2x, .slice o2x n2x c2x, .slice p2x k2x d2x, .bool m2y, .slice o2y n2y c2y, .slice p2y k2y d2y, .bool m3x, .slice o3x n3x c3x, .slice p3x k3x d3x, .bool m3y, .slice o3y n3y c3y, .slice p3y k3y d3y] 0 pv_6
    rw [hslw13] at pv_7
    have ps_7 := Box.farFrom (g' := w11.heap.size) (by omega) [.bool m1x, .slice o1x n1x c1x, .slice p1x k1x d1x, .bool m1y, .slice o1y n1y c1y, .slice p1y k1y d1y, .bool m2x, .slice o2x n2x c2x, .slice p2x k2x d2x, .bool m2y, .slice o2y n2y c2y, .slice p2y k2y d2y, .bool m3x, .slice o3x n3x c3x, .slice p3x k3x d3x, .bool m3y, .slice o3y n3y c3y, .slice p3y k3y d3y] 0 ps_6
    rw [hslw13] at ps_7
    have pr_7 := Box.farFrom (g' := w11.heap.size) (by omega) [.bool m1x, .slice o1x n1x c1x, .slice p1x k1x d1x, .bool m1y, .slice o1y n1y c1y, .slice p1y k1y d1y, .bool m2x, .slice o2x n2x c2x, .slice p2x k2x d2x, .bool m2y, .slice o2y n2y c2y, .slice p2y k2y d2y, .bool m3x, .slice o3x n3x c3x, .slice p3x k3x d3x, .bool m3y, .slice o3y n3y c3y, .slice p3y k3y d3y] 0 pr_6
    rw [hslw13] at pr_7
    have f1x_7 := f1x_6.kept (Kept.setPart pp0_0 (noWordB _ rfl) 0 [.bool m1x, .slice o1x n1x c1x, .slice p1x k1x d1x, .bool m1y, .slice o1y n1y c1y, .slice p1y k1y d1y, .bool m2x, .slice o2x n2x c2x, .slice p2x k2x d2x, .bool m2y, .slice o2y n2y c2y, .slice p2y k2y d2y, .bool m3x, .slice o3x n3x c3x, .slice p3x k3x d3x, .bool m3y, .slice o3y n3y c3y, .slice p3y k3y d3y] (by simp))
    rw [hslw13] at f1x_7
    have f1y_7 := f1y_6.kept (Kept.setPart pp0_0 (noWordB _ rfl) 0 [.bool m1x, .slice o1x n1x c1x, .slice p1x k1x d1x, .bool m1y, .slice o1y n1y c1y, .slice p1y k1y d1y, .bool m2x, .slice o2x n2x c2x, .slice p2x k2x d2x, .bool m2y, .slice o2y n2y c2y, .slice p2y k2y d2y, .bool m3x, .slice o3x n3x c3x, .slice p3x k3x d3x, .bool m3y, .slice o3y n3y c3y, .slice p3y k3y d3y] (by simp))
    rw [hslw13] at f1y_7
    have f2x_7 := f2x_6.kept (Kept.setPart pp0_0 (noWordB _ rfl) 0 [.bool m1x, .slice o1x n1x c1x, .slice p1x k1x d1x, .bool m1y, .slice o1y n1y c1y, .slice p1y k1y d1y, .bool m2x, .slice o2x n2x c2x, .slice p2x k2x d2x, .bool m2y, .slice o2y n2y c2y, .slice p2y k2y d2y, .bool m3x, .slice o3x n3x c3x, .slice p3x k3x d3x, .bool m3y, .slice o3y n3y c3y, .slice p3y k3y d3y] (by simp))
    rw [hslw13] at f2x_7
    have f2y_7 := f2y_6.kept (Kept.setPart pp0_0 (noWordB _ rfl) 0 [.bool m1x, .slice o1x n1x c1x, .slice p1x k1x d1x, .bool m1y, .slice o1y n1y c1y, .slice p1y k1y d1y, .bool m2x, .slice o2x n2x c2x, .slice p2x k2x d2x, .bool m2y, .slice o2y n2y c2y, .slice p2y k2y d2y, .bool m3x, .slice o3x n3x c3x, .slice p3x k3x d3x, .bool m3y, .slice o3y n3y c3y, .slice p3y k3y d3y] (by simp))
    rw [hslw13] at f2y_7
    have f3x_7 := f3x_6.kept (Kept.setPart pp0_0 (noWordB _ rfl) 0 [.bool m1x, .slice o1x n1x c1x, .slice p1x k1x d1x, .bool m1y, .slice o1y n1y c1y, .slice p1y k1y d1y, .bool m2x, .slice o2x n2x c2x, .slice p2x k2x d2x, .bool m2y, .slice o2y n2y c2y, .slice p2y k2y d2y, .bool m3x, .slice o3x n3x c3x, .slice p3x k3x d3x, .bool m3y, .slice o3y n3y c3y, .slice p3y k3y d3y] (by simp))
    rw [hslw13] at f3x_7
    have f3y_7 := f3y_6.kept (Kept.setPart pp0_0 (noWordB _ rfl) 0 [.bool m1x, .slice o1x n1x c1x, .slice p1x k1x d1x, .bool m1y, .slice o1y n1y c1y, .slice p1y k1y d1y, .bool m2x, .slice o2x n2x c2x, .slice p2x k2x d2x, .bool m2y, .slice o2y n2y c2y, .slice p2y k2y d2y, .bool m3x, .slice o3x n3x c3x, .slice p3x k3x d3x, .bool m3y, .slice o3y n3y c3y, .slice p3y k3y d3y] (by simp))
    rw [hslw13] at f3y_7
    have pc_7 := Box.farFrom (g' := w11.heap.size) (by omega) [.bool m1x, .slice o1x n1x c1x, .slice p1x k1x d1x, .bool m1y, .slice o1y n1y c1y, .slice p1y k1y d1y, .bool m2x, .slice o2x n2x c2x, .slice p2x k2x d2x, .bool m2y, .slice o2y n2y c2y, .slice p2y k2y d2y, .bool m3x, .slice o3x n3x c3x, .slice p3x k3x d3x, .bool m3y, .slice o3y n3y c3y, .slice p3y k3y d3y] 0 pc_6
    rw [hslw13] at pc_7
    have f5_4 := f5_3.kept (Kept.setPart pp0_0 (noWordB _ rfl) 0 [.bool m1x, .slice o1x n1x c1x, .slice p1x k1x d1x, .bool m1y, .slice o1y n1y c1y, .slice p1y k1y d1y, .bool m2x, .slice o2x n2x c2x, .slice p2x k2x d2x, .bool m2y, .slice o2y n2y c2y, .slice p2y k2y d2y, .bool m3x, .slice o3x n3x c3x, .slice p3x k3x d3x, .bool m3y, .slice o3y n3y c3y, .slice p3y k3y d3y] (by simp))
    rw [hslw13] at f5_4
    have pw_3 := Box.farFrom (g' := w11.heap.size) (by omega) [.bool m1x, .slice o1x n1x c1x, .slice p1x k1x d1x, .bool m1y, .slice o1y n1y c1y, .slice p1y k1y d1y, .bool m2x, .slice o2x n2x c2x, .slice p2x k2x d2x, .bool m2y, .slice o2y n2y c2y, .slice p2y k2y d2y, .bool m3x, .slice o3x n3x c3x, .slice p3x k3x d3x, .bool m3y, .slice o3y n3y c3y, .slice p3y k3y d3y] 0 pw_2
    rw [hslw13] at pw_3
    have po_2 := Box.farFrom (g' := w11.heap.size) (by omega) [.bool m1x, .slice o1x n1x c1x, .slice p1x k1x d1x, .bool m1y, .slice o1y n1y c1y, .slice p1y k1y d1y, .bool m2x, .slice o2x n2x c2x, .slice p2x k2x d2x, .bool m2y, .slice o2y n2y c2y, .slice p2y k2y d2y, .bool m3x, .slice o3x n3x c3x, .slice p3x k3x d3x, .bool m3y, .slice o3y n3y c3y, .slice p3y k3y d3y] 0 po_1
    rw [hslw13] at po_2
    have pp0_1 := pp0_0.setAll [.bool m1x, .slice o1x n1x c1x, .slice p1x k1x d1x, .bool m1y, .slice o1y n1y c1y, .slice p1y k1y d1y, .bool m2x, .slice o2x n2x c2x, .slice p2x k2x d2x, .bool m2y, .slice o2y n2y c2y, .slice p2y k2y d2y, .bool m3x, .slice o3x n3x c3x, .slice p3x k3x d3x, .bool m3y, .slice o3y n3y c3y, .slice p3y k3y d3y] rfl
    rw [hslw13] at pp0_1
    obtain ⟨pse0, pse1, pse2, pse3, pse4, pse5, pse6, pse7, pse8, pse9, pse10, pse11⟩ := ps_7.open6
    obtain ⟨w14, hslw14⟩ : ∃ q, Go.MagM.setAll w13 (w11.heap.size) 0 [.bool sxm, .slice sxo sxn sxc, .slice sxp sxk sxd, .bool sym, .slice syo syn syc, .slice syp syk syd] = q := ⟨_, rfl⟩
    have hB_8 := below_setFrom (g := w11.heap.size) (by omega) [.bool sxm, .slice sxo sxn sxc, .slice sxp sxk sxd, .bool sym, .slice syo syn syc, .slice syp syk syd] 0 hB_7
    rw [hslw14] at hB_8
    have fsx_8 := fsx_7.kept (Kept.setPart pp0_1 (noWordB _ rfl) 0 [.bool sxm, .slice sxo sxn sxc, .slice sxp sxk sxd, .bool sym, .slice syo syn syc, .slice syp syk syd] (by simp))
    rw [hslw14] at fsx_8
    have fsy_8 := fsy_7.kept (Kept.setPart pp0_1 (noWordB _ rfl) 0 [.bool sxm, .slice sxo sxn sxc, .slice sxp sxk sxd, .bool sym, .slice syo syn syc, .slice syp syk syd] (by simp))
    rw [hslw14] at fsy_8
    have pa_8 := Box.farFrom (g' := w11.heap.size) (by omega) [.bool sxm, .slice sxo sxn sxc, .slice sxp sxk sxd, .bool sym, .slice syo syn syc, .slice syp syk syd] 0 pa_7
    rw [hslw14] at pa_8
    have pb_8 := Box.farFrom (g' := w11.heap.size) (by omega) [.bool sxm, .slice sxo sxn sxc, .slice sxp sxk sxd, .bool sym, .slice syo syn syc, .slice syp syk syd] 0 pb_7
    rw [hslw14] at pb_8
    have pv_8 := Box.farFrom (g' := w11.heap.size) (by omega) [.bool sxm, .slice sxo sxn sxc, .slice sxp sxk sxd, .bool sym, .slice syo syn syc, .slice syp syk syd] 0 pv_7
    rw [hslw14] at pv_8
    have ps_8 := Box.farFrom (g' := w11.heap.size) (by omega) [.bool sxm, .slice sxo sxn sxc, .slice sxp sxk sxd, .bool sym, .slice syo syn syc, .slice syp syk syd] 0 ps_7
    rw [hslw14] at ps_8
    have pr_8 := Box.farFrom (g' := w11.heap.size) (by omega) [.bool sxm, .slice sxo sxn sxc, .slice sxp sxk sxd, .bool sym, .slice syo syn syc, .slice syp syk syd] 0 pr_7
    rw [hslw14] at pr_8
    have f1x_8 := f1x_7.kept (Kept.setPart pp0_1 (noWordB _ rfl) 0 [.bool sxm, .slice sxo sxn sxc, .slice sxp sxk sxd, .bool sym, .slice syo syn syc, .slice syp syk syd] (by simp))
    rw [hslw14] at f1x_8
    have f1y_8 := f1y_7.kept (Kept.setPart pp0_1 (noWordB _ rfl) 0 [.bool sxm, .slice sxo sxn sxc, .slice sxp sxk sxd, .bool sym, .slice syo syn syc, .slice syp syk syd] (by simp))
    rw [hslw14] at f1y_8
    have f2x_8 := f2x_7.kept (Kept.setPart pp0_1 (noWordB _ rfl) 0 [.bool sxm, .slice sxo sxn sxc, .slice sxp sxk sxd, .bool sym, .slice syo syn syc, .slice syp syk syd] (by simp))
    rw [hslw14] at f2x_8
    have f2y_8 := f2y_7.kept (Kept.setPart pp0_1 (noWordB _ rfl) 0 [.bool sxm, .slice sxo sxn sxc, .slice sxp sxk sxd, .bool sym, .slice syo syn syc, .slice syp syk syd] (by simp))
    rw [hslw14] at f2y_8
    have f3x_8 := f3x_7.kept (Kept.setPart pp0_1 (noWordB _ rfl) 0 [.bool sxm, .slice sxo sxn sxc, .slice sxp sxk sxd, .bool sym, .slice syo syn syc, .slice syp syk syd] (by simp))
    rw [hslw14] at f3x_8
    have f3y_8 := f3y_7.kept (Kept.setPart pp0_1 (noWordB _ rfl) 0 [.bool sxm, .slice sxo sxn sxc, .slice sxp sxk sxd, .bool sym, .slice syo syn syc, .slice syp syk syd] (by simp))
    rw [hslw14] at f3y_8
    have pc_8 := Box.farFrom (g' := w11.heap.size) (by omega) [.bool sxm, .slice sxo sxn sxc, .slice sxp sxk sxd, .bool sym, .slice syo syn syc, .slice syp syk syd] 0 pc_7
    rw [hslw14] at pc_8
    have f5_5 := f5_4.kept (Kept.setPart pp0_1 (noWordB _ rfl) 0 [.bool sxm, .slice sxo sxn sxc, .slice sxp sxk sxd, .bool sym, .slice syo syn syc, .slice syp syk syd] (by simp))
    rw [hslw14] at f5_5
    have pw_4 := Box.farFrom (g' := w11.heap.size) (by omega) [.bool sxm, .slice sxo sxn sxc, .slice sxp sxk sxd, .bool sym, .slice syo syn syc, .slice syp syk syd] 0 pw_3
    rw [hslw14] at pw_4
    have po_3 := Box.farFrom (g' := w11.heap.size) (by omega) [.bool sxm, .slice sxo sxn sxc, .slice sxp sxk sxd, .bool sym, .slice syo syn syc, .slice syp syk syd] 0 po_2
    rw [hslw14] at po_3
    have pp0_2 : Box (Go.MagM.setAll w13 (w11.heap.size) 0 [.bool sxm, .slice sxo sxn sxc, .slice sxp sxk sxd, .bool sym, .slice syo syn syc, .slice syp syk syd]) (w11.heap.size) [.bool sxm, .slice sxo sxn sxc, .slice sxp sxk sxd, .bool sym, .slice syo syn syc, .slice syp syk syd, .bool m2x, .slice o2x n2x c2x, .slice p2x k2x d2x, .bool m2y, .slice o2y n2y c2y, .slice p2y k2y d2y, .bool m3x, .slice o3x n3x c3x, .slice p3x k3x d3x, .bool m3y, .slice o3y n3y c3y, .slice p3y k3y d3y] := ((((((pp0_1.set 0 (.bool sxm)).set 1 (.slice sxo sxn sxc)).set 2 (.slice sxp sxk sxd)).set 3 (.bool sym)).set 4 (.slice syo syn syc)).set 5 (.slice syp syk syd))
    rw [hslw14] at pp0_2
    go_wp2_with (first | refine wpList_load_box rfl 97 _ rfl hpcA _ rfl Try.underlying97 rfl (by kernel_rfl) ?_ | refine wpList_store_box rfl _ _ _ rfl [.bool m1x, .slice o1x n1x c1x, .slice p1x k1x d1x, .bool m1y, .slice o1y n1y c1y, .slice p1y k1y d1y, .bool m2x, .slice o2x n2x c2x, .slice p2x k2x d2x, .bool m2y, .slice o2y n2y c2y, .slice p2y k2y d2y, .bool m3x, .slice o3x n3x c3x, .slice p3x k3x d3x, .bool m3y, .slice o3y n3y c3y, .slice p3y k3y d3y] pp0_0 rfl rfl (by kernel_rfl) (by simp) rfl hslw13 ?_ | refine wpList_store_box rfl _ _ _ rfl [.bool sxm, .slice sxo sxn sxc, .slice sxp sxk sxd, .bool sym, .slice syo syn syc, .slice syp syk syd] pp0_1 rfl rfl (by kernel_rfl) (by simp) rfl hslw14 ?_)
    clear hpcA
    clear pse0 pse1 pse2 pse3 pse4 pse5 pse6 pse7 pse8 pse9 pse10 pse11 hslw13 hslw14 hB_6 fsx_6 fsy_6 pa_6 pb_6 pv_6 ps_6 pr_6 f1x_6 f1y_6 f2x_6 f2y_6 f3x_6 f3y_6 pc_6 f5_3 pw_2 po_1 pp0_0 hB_7 fsx_7 fsy_7 pa_7 pb_7 pv_7 ps_7 pr_7 f1x_7 f1y_7 f2x_7 f2y_7 f3x_7 f3y_7 pc_7 f5_4 pw_3 po_2 pp0_1
    have hB_9 := hB_8.drew'
    have fsx_9 := fsx_8.drew
    have fsy_9 := fsy_8.drew
    have pa_9 := pa_8.drew
    have pb_9 := pb_8.drew
    have pv_9 := pv_8.drew
    have ps_9 := ps_8.drew
    have pr_9 := pr_8.drew
    have f1x_9 := f1x_8.drew
    have f1y_9 := f1y_8.drew
    have f2x_9 := f2x_8.drew
    have f2y_9 := f2y_8.drew
    have f3x_9 := f3x_8.drew
    have f3y_9 := f3y_8.drew
    have pc_9 := pc_8.drew
    have f5_6 := f5_5.drew
    have pw_5 := pw_4.drew
    have po_4 := po_3.drew
    have pp0_3 := pp0_2.drew
    clear hB_8 fsx_8 fsy_8 pa_8 pb_8 pv_8 ps_8 pr_8 f1x_8 f1y_8 f2x_8 f2y_8 f3x_8 f3y_8 pc_8 f5_5 pw_4 po_3 pp0_2
    go_region_held3 (fun w' => w'.cell? ⟨w9.heap.size, 0, none⟩ = some (.bool m5) ∧ w'.cell? ⟨w9.heap.size, 1, none⟩ = some (.slice o5 n5 c5) ∧ w'.cell? ⟨w9.heap.size, 2, none⟩ = some (.slice p5 k5 d5))
      (first | with_reducible exact ⟨pw_5.c0, pw_5.c1, pw_5.c2⟩ | with_reducible exact ⟨pw_6.c0, pw_6.c1, pw_6.c2⟩ | with_reducible exact ⟨pw_7.c0, pw_7.c1, pw_7.c2⟩ | with_reducible exact ⟨pw_8.c0, pw_8.c1, pw_8.c2⟩ | fail)
      (first
        | (go_at_call 28; (with_reducible refine (sArea2_three L _ _ _ _ _ _ _ (by have := HL.out; omega) pp0_3 fsx_9 fsy_9 (f2x_9.q.more HL1.out) (f2y_9.q.more HL1.out) (f3x_9.q.more HL1.out) (f3y_9.q.more HL1.out)).mono ?_); rintro e w15 ⟨m10, o10, n10, c10, p10, k10, d10, rfl, f10_0, hb15⟩; have hB_10 := hB_9.trans (hb15.mono hB_9.size); have fsx_10 := fsx_9.below hb15; have fsy_10 := fsy_9.below hb15; have pa_10 := pa_9.below hb15; have pb_10 := pb_9.below hb15; have pv_10 := pv_9.below hb15; have ps_10 := ps_9.below hb15; have pr_10 := pr_9.below hb15; have f1x_10 := f1x_9.below hb15; have f1y_10 := f1y_9.below hb15; have f2x_10 := f2x_9.below hb15; have f2y_10 := f2y_9.below hb15; have f3x_10 := f3x_9.below hb15; have f3y_10 := f3y_9.below hb15; have pc_10 := pc_9.below hb15; have f5_7 := f5_6.below hb15; have pw_6 := pw_5.below hb15; have po_5 := po_4.below hb15; have pp0_4 := pp0_3.below hb15; clear hb15 hB_9 fsx_9 fsy_9 pa_9 pb_9 pv_9 ps_9 pr_9 f1x_9 f1y_9 f2x_9 f2y_9 f3x_9 f3y_9 pc_9 f5_6 pw_5 po_4 pp0_3)
        | (go_at_call 67; (with_reducible refine (qDiv _ _ (1 + 3 * (((L + L + 2) + (L + L + 2) + 2) + 2)) (max 2 1) _ _ _ (by have := HL.out; omega) (by omega) f10_0.q f5_7.q (ic_ne H0.out)).mono ?_); rintro e w16 ⟨m20, o20, n20, c20, p20, k20, d20, rfl, f20_0, hb16⟩; have hB_11 := hB_10.trans (hb16.mono hB_10.size); have fsx_11 := fsx_10.below hb16; have fsy_11 := fsy_10.below hb16; have pa_11 := pa_10.below hb16; have pb_11 := pb_10.below hb16; have pv_11 := pv_10.below hb16; have ps_11 := ps_10.below hb16; have pr_11 := pr_10.below hb16; have f1x_11 := f1x_10.below hb16; have f1y_11 := f1y_10.below hb16; have f2x_11 := f2x_10.below hb16; have f2y_11 := f2y_10.below hb16; have f3x_11 := f3x_10.below hb16; have f3y_11 := f3y_10.below hb16; have pc_11 := pc_10.below hb16; have f5_8 := f5_7.below hb16; have pw_7 := pw_6.below hb16; have po_6 := po_5.below hb16; have pp0_5 := pp0_4.below hb16; have f10_1 := f10_0.below hb16; clear hb16 hB_10 fsx_10 fsy_10 pa_10 pb_10 pv_10 ps_10 pr_10 f1x_10 f1y_10 f2x_10 f2y_10 f3x_10 f3y_10 pc_10 f5_7 pw_6 po_5 pp0_4 f10_0; have sf1c0 := po_6.c 0 _ rfl; have sf1f0 := po_6.f 0 _ rfl; have sf1b0 : Box (World.setCell w16 ⟨w9.heap.size + 1, 0, none⟩ (.bool m20)) (w9.heap.size + 1) [.bool m20, .slice none 0 0, .slice none 0 0, .bool false, .slice none 0 0, .slice none 0 0, .bool false, .slice none 0 0, .slice none 0 0] := po_6.set 0 (.bool m20); have sf1c1 := sf1b0.c 1 _ rfl; have sf1f1 := sf1b0.f 1 _ rfl; have sf1b1 : Box (World.setCell (World.setCell w16 ⟨w9.heap.size + 1, 0, none⟩ (.bool m20)) ⟨w9.heap.size + 1, 1, none⟩ (.slice o20 n20 c20)) (w9.heap.size + 1) [.bool m20, .slice o20 n20 c20, .slice none 0 0, .bool false, .slice none 0 0, .slice none 0 0, .bool false, .slice none 0 0, .slice none 0 0] := sf1b0.set 1 (.slice o20 n20 c20); have sf1c2 := sf1b1.c 2 _ rfl; have sf1f2 := sf1b1.f 2 _ rfl; have hB_12 := below_setFrom (g := w9.heap.size + 1) (by omega) [.bool m20, .slice o20 n20 c20, .slice p20 k20 d20] 0 hB_11; have fsx_12 := fsx_11.kept (Kept.setPart po_6 (noWordB _ rfl) 0 [.bool m20, .slice o20 n20 c20, .slice p20 k20 d20] (by simp)); have fsy_12 := fsy_11.kept (Kept.setPart po_6 (noWordB _ rfl) 0 [.bool m20, .slice o20 n20 c20, .slice p20 k20 d20] (by simp)); have pa_12 := Box.farFrom (g' := w9.heap.size + 1) (by omega) [.bool m20, .slice o20 n20 c20, .slice p20 k20 d20] 0 pa_11; have pb_12 := Box.farFrom (g' := w9.heap.size + 1) (by omega) [.bool m20, .slice o20 n20 c20, .slice p20 k20 d20] 0 pb_11; have pv_12 := Box.farFrom (g' := w9.heap.size + 1) (by omega) [.bool m20, .slice o20 n20 c20, .slice p20 k20 d20] 0 pv_11; have ps_12 := Box.farFrom (g' := w9.heap.size + 1) (by omega) [.bool m20, .slice o20 n20 c20, .slice p20 k20 d20] 0 ps_11; have pr_12 := Box.farFrom (g' := w9.heap.size + 1) (by omega) [.bool m20, .slice o20 n20 c20, .slice p20 k20 d20] 0 pr_11; have f1x_12 := f1x_11.kept (Kept.setPart po_6 (noWordB _ rfl) 0 [.bool m20, .slice o20 n20 c20, .slice p20 k20 d20] (by simp)); have f1y_12 := f1y_11.kept (Kept.setPart po_6 (noWordB _ rfl) 0 [.bool m20, .slice o20 n20 c20, .slice p20 k20 d20] (by simp)); have f2x_12 := f2x_11.kept (Kept.setPart po_6 (noWordB _ rfl) 0 [.bool m20, .slice o20 n20 c20, .slice p20 k20 d20] (by simp)); have f2y_12 := f2y_11.kept (Kept.setPart po_6 (noWordB _ rfl) 0 [.bool m20, .slice o20 n20 c20, .slice p20 k20 d20] (by simp)); have f3x_12 := f3x_11.kept (Kept.setPart po_6 (noWordB _ rfl) 0 [.bool m20, .slice o20 n20 c20, .slice p20 k20 d20] (by simp)); have f3y_12 := f3y_11.kept (Kept.setPart po_6 (noWordB _ rfl) 0 [.bool m20, .slice o20 n20 c20, .slice p20 k20 d20] (by simp)); have pc_12 := Box.farFrom (g' := w9.heap.size + 1) (by omega) [.bool m20, .slice o20 n20 c20, .slice p20 k20 d20] 0 pc_11; have f5_9 := f5_8.kept (Kept.setPart po_6 (noWordB _ rfl) 0 [.bool m20, .slice o20 n20 c20, .slice p20 k20 d20] (by simp)); have pw_8 := Box.farFrom (g' := w9.heap.size + 1) (by omega) [.bool m20, .slice o20 n20 c20, .slice p20 k20 d20] 0 pw_7; have pp0_6 := Box.farFrom (g' := w9.heap.size + 1) (by omega) [.bool m20, .slice o20 n20 c20, .slice p20 k20 d20] 0 pp0_5; have f10_2 := f10_1.kept (Kept.setPart po_6 (noWordB _ rfl) 0 [.bool m20, .slice o20 n20 c20, .slice p20 k20 d20] (by simp)); have f20_1 := f20_0.kept (Kept.setPart po_6 (noWordB _ rfl) 0 [.bool m20, .slice o20 n20 c20, .slice p20 k20 d20] (by simp)); simp only [setAll, Nat.zero_add, Nat.reduceAdd] at hB_12 fsx_12 fsy_12 pa_12 pb_12 pv_12 ps_12 pr_12 f1x_12 f1y_12 f2x_12 f2y_12 f3x_12 f3y_12 pc_12 f5_9 pw_8 pp0_6 f10_2 f20_1; have po_7 : Box (World.setCell (World.setCell (World.setCell w16 ⟨w9.heap.size + 1, 0, none⟩ (.bool m20)) ⟨w9.heap.size + 1, 1, none⟩ (.slice o20 n20 c20)) ⟨w9.heap.size + 1, 2, none⟩ (.slice p20 k20 d20)) (w9.heap.size + 1) [.bool m20, .slice o20 n20 c20, .slice p20 k20 d20, .bool false, .slice none 0 0, .slice none 0 0, .bool false, .slice none 0 0, .slice none 0 0] := (((po_6.set 0 (.bool m20)).set 1 (.slice o20 n20 c20)).set 2 (.slice p20 k20 d20))))
    clear hB_11 fsx_11 fsy_11 pa_11 pb_11 pv_11 ps_11 pr_11 f1x_11 f1y_11 f2x_11 f2y_11 f3x_11 f3y_11 pc_11 f5_8 pw_7 pp0_5 f10_1 f20_0 po_6
    clear sf1c0 sf1f0 sf1b0 sf1c1 sf1f1 sf1b1 sf1c2 sf1f2
    generalize (World.setCell (World.setCell (World.setCell w16 ⟨w9.heap.size + 1, 0, none⟩ (.bool m20)) ⟨w9.heap.size + 1, 1, none⟩ (.slice o20 n20 c20)) ⟨w9.heap.size + 1, 2, none⟩ (.slice p20 k20 d20)) = w17 at *
    clear f10_2 pp0_6
    go_wp2
    rw [rounds_succ]
    have hpcA := pc_12
    have hl3pa := pa_12.lt
    have hl3pb := pb_12.lt
    have hl3pv := pv_12.lt
    have hl3ps := ps_12.lt
    have hl3pr := pr_12.lt
    have hl3pc := pc_12.lt
    have hl3pw := pw_8.lt
    have hl3po := po_7.lt
    have hl3B := hB_12.size
    obtain ⟨w18, hw18, pp1_0, hb18, hs18⟩ := new_box w17 (w17.heap.size) rfl [.bool false, .slice none 0 0, .slice none 0 0, .bool false, .slice none 0 0, .slice none 0 0, .bool false, .slice none 0 0, .slice none 0 0, .bool false, .slice none 0 0, .slice none 0 0, .bool false, .slice none 0 0, .slice none 0 0, .bool false, .slice none 0 0, .slice none 0 0] 97
    have hb18' : Below w17.heap.size w17 w18 := hb18.mono (by omega)
    clear hb18
    have hB_13 := hB_12.trans (hb18'.mono hB_12.size)
    have fsx_13 := fsx_12.below hb18'
    have fsy_13 := fsy_12.below hb18'
    have pa_13 := pa_12.below hb18'
    have pb_13 := pb_12.below hb18'
    have pv_13 := pv_12.below hb18'
    have ps_13 := ps_12.below hb18'
    have pr_13 := pr_12.below hb18'
    have f1x_13 := f1x_12.below hb18'
    have f1y_13 := f1y_12.below hb18'
    have f2x_13 := f2x_12.below hb18'
    have f2y_13 := f2y_12.below hb18'
    have f3x_13 := f3x_12.below hb18'
    have f3y_13 := f3y_12.below hb18'
    have pc_13 := pc_12.below hb18'
    have f5_10 := f5_9.below hb18'
    have pw_9 := pw_8.below hb18'
    have po_8 := po_7.below hb18'
    have f20_2 := f20_1.below hb18'
    clear hb18' hB_12 fsx_12 fsy_12 pa_12 pb_12 pv_12 ps_12 pr_12 f1x_12 f1y_12 f2x_12 f2y_12 f3x_12 f3y_12 pc_12 f5_9 pw_8 po_7 f20_1
    clear hs18
    obtain ⟨w19, hslw19⟩ : ∃ q, Go.MagM.setAll w18 (w17.heap.size) 0 [.bool m1x, .slice o1x n1x c1x, .slice p1x k1x d1x, .bool m1y, .slice o1y n1y c1y, .slice p1y k1y d1y, .bool m2x, .slice o2x n2x c2x, .slice p2x k2x d2x, .bool m2y, .slice o2y n2y c2y, .slice p2y k2y d2y, .bool m3x, .slice o3x n3x c3x, .slice p3x k3x d3x, .bool m3y, .slice o3y n3y c3y, .slice p3y k3y d3y] = q := ⟨_, rfl⟩
    have hB_14 := below_setFrom (g := w17.heap.size) (by omega) [.bool m1x, .slice o1x n1x c1x, .slice p1x k1x d1x, .bool m1y, .slice o1y n1y c1y, .slice p1y k1y d1y, .bool m2x, .slice o2x n2x c2x, .slice p2x k2x d2x, .bool m2y, .slice o2y n2y c2y, .slice p2y k2y d2y, .bool m3x, .slice o3x n3x c3x, .slice p3x k3x d3x, .bool m3y, .slice o3y n3y c3y, .slice p3y k3y d3y] 0 hB_13
    rw [hslw19] at hB_14
    have fsx_14 := fsx_13.kept (Kept.setPart pp1_0 (noWordB _ rfl) 0 [.bool m1x, .slice o1x n1x c1x, .slice p1x k1x d1x, .bool m1y, .slice o1y n1y c1y, .slice p1y k1y d1y, .bool m2x, .slice o2x n2x c2x, .slice p2x k2x d2x, .bool m2y, .slice o2y n2y c2y, .slice p2y k2y d2y, .bool m3x, .slice o3x n3x c3x, .slice p3x k3x d3x, .bool m3y, .slice o3y n3y c3y, .slice p3y k3y d3y] (by simp))
    rw [hslw19] at fsx_14
    have fsy_14 := fsy_13.kept (Kept.setPart pp1_0 (noWordB _ rfl) 0 [.bool m1x, .slice o1x n1x c1x, .slice p1x k1x d1x, .bool m1y, .slice o1y n1y c1y, .slice p1y k1y d1y, .bool m2x, .slice o2x n2x c2x, .slice p2x k2x d2x, .bool m2y, .slice o2y n2y c2y, .slice p2y k2y d2y, .bool m3x, .slice o3x n3x c3x, .slice p3x k3x d3x, .bool m3y, .slice o3y n3y c3y, .slice p3y k3y d3y] (by simp))
    rw [hslw19] at fsy_14
    have pa_14 := Box.farFrom (g' := w17.heap.size) (by omega) [.bool m1x, .slice o1x n1x c1x, .slice p1x k1x d1x, .bool m1y, .slice o1y n1y c1y, .slice p1y k1y d1y, .bool m2x, .slice o2x n2x c2x, .slice p2x k2x d2x, .bool m2y, .slice o2y n2y c2y, .slice p2y k2y d2y, .bool m3x, .slice o3x n3x c3x, .slice p3x k3x d3x, .bool m3y, .slice o3y n3y c3y, .slice p3y k3y d3y] 0 pa_13
    rw [hslw19] at pa_14
    have pb_14 := Box.farFrom (g' := w17.heap.size) (by omega) [.bool m1x, .slice o1x n1x c1x, .slice p1x k1x d1x, .bool m1y, .slice o1y n1y c1y, .slice p1y k1y d1y, .bool m2x, .slice o2x n2x c2x, .slice p2x k2x d2x, .bool m2y, .slice o2y n2y c2y, .slice p2y k2y d2y, .bool m3x, .slice o3x n3x c3x, .slice p3x k3x d3x, .bool m3y, .slice o3y n3y c3y, .slice p3y k3y d3y] 0 pb_13
    rw [hslw19] at pb_14
    have pv_14 := Box.farFrom (g' := w17.heap.size) (by omega) [.bool m1x, .slice o1x n1x c1x, .slice p1x k1x d1x, .bool m1y, .slice o1y n1y c1y, .slice p1y k1y d1y, .bool m2x, .slice o2x n2x c2x, .slice p2x k2x d2x, .bool m2y, .slice o2y n2y c2y, .slice p2y k2y d2y, .bool m3x, .slice o3x n3x c3x, .slice p3x k3x d3x, .bool m3y, .slice o3y n3y c3y, .slice p3y k3y d3y] 0 pv_13
    rw [hslw19] at pv_14
    have ps_14 := Box.farFrom (g' := w17.heap.size) (by omega) [.bool m1x, .slice o1x n1x c1x, .slice p1x k1x d1x, .bool m1y, .slice o1y n1y c1y, .slice p1y k1y d1y, .bool m2x, .slice o2x n2x c2x, .slice p2x k2x d2x, .bool m2y, .slice o2y n2y c2y, .slice p2y k2y d2y, .bool m3x, .slice o3x n3x c3x, .slice p3x k3x d3x, .bool m3y, .slice o3y n3y c3y, .slice p3y k3y d3y] 0 ps_13
    rw [hslw19] at ps_14
    have pr_14 := Box.farFrom (g' := w17.heap.size) (by omega) [.bool m1x, .slice o1x n1x c1x, .slice p1x k1x d1x, .bool m1y, .slice o1y n1y c1y, .slice p1y k1y d1y, .bool m2x, .slice o2x n2x c2x, .slice p2x k2x d2x, .bool m2y, .slice o2y n2y c2y, .slice p2y k2y d2y, .bool m3x, .slice o3x n3x c3x, .slice p3x k3x d3x, .bool m3y, .slice o3y n3y c3y, .slice p3y k3y d3y] 0 pr_13
    rw [hslw19] at pr_14
    have f1x_14 := f1x_13.kept (Kept.setPart pp1_0 (noWordB _ rfl) 0 [.bool m1x, .slice o1x n1x c1x, .slice p1x k1x d1x, .bool m1y, .slice o1y n1y c1y, .slice p1y k1y d1y, .bool m2x, .slice o2x n2x c2x, .slice p2x k2x d2x, .bool m2y, .slice o2y n2y c2y, .slice p2y k2y d2y, .bool m3x, .slice o3x n3x c3x, .slice p3x k3x d3x, .bool m3y, .slice o3y n3y c3y, .slice p3y k3y d3y] (by simp))
    rw [hslw19] at f1x_14
    have f1y_14 := f1y_13.kept (Kept.setPart pp1_0 (noWordB _ rfl) 0 [.bool m1x, .slice o1x n1x c1x, .slice p1x k1x d1x, .bool m1y, .slice o1y n1y c1y, .slice p1y k1y d1y, .bool m2x, .slice o2x n2x c2x, .slice p2x k2x d2x, .bool m2y, .slice o2y n2y c2y, .slice p2y k2y d2y, .bool m3x, .slice o3x n3x c3x, .slice p3x k3x d3x, .bool m3y, .slice o3y n3y c3y, .slice p3y k3y d3y] (by simp))
    rw [hslw19] at f1y_14
    have f2x_14 := f2x_13.kept (Kept.setPart pp1_0 (noWordB _ rfl) 0 [.bool m1x, .slice o1x n1x c1x, .slice p1x k1x d1x, .bool m1y, .slice o1y n1y c1y, .slice p1y k1y d1y, .bool m2x, .slice o2x n2x c2x, .slice p2x k2x d2x, .bool m2y, .slice o2y n2y c2y, .slice p2y k2y d2y, .bool m3x, .slice o3x n3x c3x, .slice p3x k3x d3x, .bool m3y, .slice o3y n3y c3y, .slice p3y k3y d3y] (by simp))
    rw [hslw19] at f2x_14
    have f2y_14 := f2y_13.kept (Kept.setPart pp1_0 (noWordB _ rfl) 0 [.bool m1x, .slice o1x n1x c1x, .slice p1x k1x d1x, .bool m1y, .slice o1y n1y c1y, .slice p1y k1y d1y, .bool m2x, .slice o2x n2x c2x, .slice p2x k2x d2x, .bool m2y, .slice o2y n2y c2y, .slice p2y k2y d2y, .bool m3x, .slice o3x n3x c3x, .slice p3x k3x d3x, .bool m3y, .slice o3y n3y c3y, .slice p3y k3y d3y] (by simp))
    rw [hslw19] at f2y_14
    have f3x_14 := f3x_13.kept (Kept.setPart pp1_0 (noWordB _ rfl) 0 [.bool m1x, .slice o1x n1x c1x, .slice p1x k1x d1x, .bool m1y, .slice o1y n1y c1y, .slice p1y k1y d1y, .bool m2x, .slice o2x n2x c2x, .slice p2x k2x d2x, .bool m2y, .slice o2y n2y c2y, .slice p2y k2y d2y, .bool m3x, .slice o3x n3x c3x, .slice p3x k3x d3x, .bool m3y, .slice o3y n3y c3y, .slice p3y k3y d3y] (by simp))
    rw [hslw19] at f3x_14
    have f3y_14 := f3y_13.kept (Kept.setPart pp1_0 (noWordB _ rfl) 0 [.bool m1x, .slice o1x n1x c1x, .slice p1x k1x d1x, .bool m1y, .slice o1y n1y c1y, .slice p1y k1y d1y, .bool m2x, .slice o2x n2x c2x, .slice p2x k2x d2x, .bool m2y, .slice o2y n2y c2y, .slice p2y k2y d2y, .bool m3x, .slice o3x n3x c3x, .slice p3x k3x d3x, .bool m3y, .slice o3y n3y c3y, .slice p3y k3y d3y] (by simp))
    rw [hslw19] at f3y_14
    have pc_14 := Box.farFrom (g' := w17.heap.size) (by omega) [.bool m1x, .slice o1x n1x c1x, .slice p1x k1x d1x, .bool m1y, .slice o1y n1y c1y, .slice p1y k1y d1y, .bool m2x, .slice o2x n2x c2x, .slice p2x k2x d2x, .bool m2y, .slice o2y n2y c2y, .slice p2y k2y d2y, .bool m3x, .slice o3x n3x c3x, .slice p3x k3x d3x, .bool m3y, .slice o3y n3y c3y, .slice p3y k3y d3y] 0 pc_13
    rw [hslw19] at pc_14
    have f5_11 := f5_10.kept (Kept.setPart pp1_0 (noWordB _ rfl) 0 [.bool m1x, .slice o1x n1x c1x, .slice p1x k1x d1x, .bool m1y, .slice o1y n1y c1y, .slice p1y k1y d1y, .bool m2x, .slice o2x n2x c2x, .slice p2x k2x d2x, .bool m2y, .slice o2y n2y c2y, .slice p2y k2y d2y, .bool m3x, .slice o3x n3x c3x, .slice p3x k3x d3x, .bool m3y, .slice o3y n3y c3y, .slice p3y k3y d3y] (by simp))
    rw [hslw19] at f5_11
    have pw_10 := Box.farFrom (g' := w17.heap.size) (by omega) [.bool m1x, .slice o1x n1x c1x, .slice p1x k1x d1x, .bool m1y, .slice o1y n1y c1y, .slice p1y k1y d1y, .bool m2x, .slice o2x n2x c2x, .slice p2x k2x d2x, .bool m2y, .slice o2y n2y c2y, .slice p2y k2y d2y, .bool m3x, .slice o3x n3x c3x, .slice p3x k3x d3x, .bool m3y, .slice o3y n3y c3y, .slice p3y k3y d3y] 0 pw_9
    rw [hslw19] at pw_10
    have po_9 := Box.farFrom (g' := w17.heap.size) (by omega) [.bool m1x, .slice o1x n1x c1x, .slice p1x k1x d1x, .bool m1y, .slice o1y n1y c1y, .slice p1y k1y d1y, .bool m2x, .slice o2x n2x c2x, .slice p2x k2x d2x, .bool m2y, .slice o2y n2y c2y, .slice p2y k2y d2y, .bool m3x, .slice o3x n3x c3x, .slice p3x k3x d3x, .bool m3y, .slice o3y n3y c3y, .slice p3y k3y d3y] 0 po_8
    rw [hslw19] at po_9
    have f20_3 := f20_2.kept (Kept.setPart pp1_0 (noWordB _ rfl) 0 [.bool m1x, .slice o1x n1x c1x, .slice p1x k1x d1x, .bool m1y, .slice o1y n1y c1y, .slice p1y k1y d1y, .bool m2x, .slice o2x n2x c2x, .slice p2x k2x d2x, .bool m2y, .slice o2y n2y c2y, .slice p2y k2y d2y, .bool m3x, .slice o3x n3x c3x, .slice p3x k3x d3x, .bool m3y, .slice o3y n3y c3y, .slice p3y k3y d3y] (by simp))
    rw [hslw19] at f20_3
    have pp1_1 := pp1_0.setAll [.bool m1x, .slice o1x n1x c1x, .slice p1x k1x d1x, .bool m1y, .slice o1y n1y c1y, .slice p1y k1y d1y, .bool m2x, .slice o2x n2x c2x, .slice p2x k2x d2x, .bool m2y, .slice o2y n2y c2y, .slice p2y k2y d2y, .bool m3x, .slice o3x n3x c3x, .slice p3x k3x d3x, .bool m3y, .slice o3y n3y c3y, .slice p3y k3y d3y] rfl
    rw [hslw19] at pp1_1
    obtain ⟨pse0, pse1, pse2, pse3, pse4, pse5, pse6, pse7, pse8, pse9, pse10, pse11⟩ := ps_14.open6
    obtain ⟨w20, hslw20⟩ : ∃ q, Go.MagM.setAll w19 (w17.heap.size) 6 [.bool sxm, .slice sxo sxn sxc, .slice sxp sxk sxd, .bool sym, .slice syo syn syc, .slice syp syk syd] = q := ⟨_, rfl⟩
    have hB_15 := below_setFrom (g := w17.heap.size) (by omega) [.bool sxm, .slice sxo sxn sxc, .slice sxp sxk sxd, .bool sym, .slice syo syn syc, .slice syp syk syd] 6 hB_14
    rw [hslw20] at hB_15
    have fsx_15 := fsx_14.kept (Kept.setPart pp1_1 (noWordB _ rfl) 6 [.bool sxm, .slice sxo sxn sxc, .slice sxp sxk sxd, .bool sym, .slice syo syn syc, .slice syp syk syd] (by simp))
    rw [hslw20] at fsx_15
    have fsy_15 := fsy_14.kept (Kept.setPart pp1_1 (noWordB _ rfl) 6 [.bool sxm, .slice sxo sxn sxc, .slice sxp sxk sxd, .bool sym, .slice syo syn syc, .slice syp syk syd] (by simp))
    rw [hslw20] at fsy_15
    have pa_15 := Box.farFrom (g' := w17.heap.size) (by omega) [.bool sxm, .slice sxo sxn sxc, .slice sxp sxk sxd, .bool sym, .slice syo syn syc, .slice syp syk syd] 6 pa_14
    rw [hslw20] at pa_15
    have pb_15 := Box.farFrom (g' := w17.heap.size) (by omega) [.bool sxm, .slice sxo sxn sxc, .slice sxp sxk sxd, .bool sym, .slice syo syn syc, .slice syp syk syd] 6 pb_14
    rw [hslw20] at pb_15
    have pv_15 := Box.farFrom (g' := w17.heap.size) (by omega) [.bool sxm, .slice sxo sxn sxc, .slice sxp sxk sxd, .bool sym, .slice syo syn syc, .slice syp syk syd] 6 pv_14
    rw [hslw20] at pv_15
    have ps_15 := Box.farFrom (g' := w17.heap.size) (by omega) [.bool sxm, .slice sxo sxn sxc, .slice sxp sxk sxd, .bool sym, .slice syo syn syc, .slice syp syk syd] 6 ps_14
    rw [hslw20] at ps_15
    have pr_15 := Box.farFrom (g' := w17.heap.size) (by omega) [.bool sxm, .slice sxo sxn sxc, .slice sxp sxk sxd, .bool sym, .slice syo syn syc, .slice syp syk syd] 6 pr_14
    rw [hslw20] at pr_15
    have f1x_15 := f1x_14.kept (Kept.setPart pp1_1 (noWordB _ rfl) 6 [.bool sxm, .slice sxo sxn sxc, .slice sxp sxk sxd, .bool sym, .slice syo syn syc, .slice syp syk syd] (by simp))
    rw [hslw20] at f1x_15
    have f1y_15 := f1y_14.kept (Kept.setPart pp1_1 (noWordB _ rfl) 6 [.bool sxm, .slice sxo sxn sxc, .slice sxp sxk sxd, .bool sym, .slice syo syn syc, .slice syp syk syd] (by simp))
    rw [hslw20] at f1y_15
    have f2x_15 := f2x_14.kept (Kept.setPart pp1_1 (noWordB _ rfl) 6 [.bool sxm, .slice sxo sxn sxc, .slice sxp sxk sxd, .bool sym, .slice syo syn syc, .slice syp syk syd] (by simp))
    rw [hslw20] at f2x_15
    have f2y_15 := f2y_14.kept (Kept.setPart pp1_1 (noWordB _ rfl) 6 [.bool sxm, .slice sxo sxn sxc, .slice sxp sxk sxd, .bool sym, .slice syo syn syc, .slice syp syk syd] (by simp))
    rw [hslw20] at f2y_15
    have f3x_15 := f3x_14.kept (Kept.setPart pp1_1 (noWordB _ rfl) 6 [.bool sxm, .slice sxo sxn sxc, .slice sxp sxk sxd, .bool sym, .slice syo syn syc, .slice syp syk syd] (by simp))
    rw [hslw20] at f3x_15
    have f3y_15 := f3y_14.kept (Kept.setPart pp1_1 (noWordB _ rfl) 6 [.bool sxm, .slice sxo sxn sxc, .slice sxp sxk sxd, .bool sym, .slice syo syn syc, .slice syp syk syd] (by simp))
    rw [hslw20] at f3y_15
    have pc_15 := Box.farFrom (g' := w17.heap.size) (by omega) [.bool sxm, .slice sxo sxn sxc, .slice sxp sxk sxd, .bool sym, .slice syo syn syc, .slice syp syk syd] 6 pc_14
    rw [hslw20] at pc_15
    have f5_12 := f5_11.kept (Kept.setPart pp1_1 (noWordB _ rfl) 6 [.bool sxm, .slice sxo sxn sxc, .slice sxp sxk sxd, .bool sym, .slice syo syn syc, .slice syp syk syd] (by simp))
    rw [hslw20] at f5_12
    have pw_11 := Box.farFrom (g' := w17.heap.size) (by omega) [.bool sxm, .slice sxo sxn sxc, .slice sxp sxk sxd, .bool sym, .slice syo syn syc, .slice syp syk syd] 6 pw_10
    rw [hslw20] at pw_11
    have po_10 := Box.farFrom (g' := w17.heap.size) (by omega) [.bool sxm, .slice sxo sxn sxc, .slice sxp sxk sxd, .bool sym, .slice syo syn syc, .slice syp syk syd] 6 po_9
    rw [hslw20] at po_10
    have f20_4 := f20_3.kept (Kept.setPart pp1_1 (noWordB _ rfl) 6 [.bool sxm, .slice sxo sxn sxc, .slice sxp sxk sxd, .bool sym, .slice syo syn syc, .slice syp syk syd] (by simp))
    rw [hslw20] at f20_4
    have pp1_2 : Box (Go.MagM.setAll w19 (w17.heap.size) 6 [.bool sxm, .slice sxo sxn sxc, .slice sxp sxk sxd, .bool sym, .slice syo syn syc, .slice syp syk syd]) (w17.heap.size) [.bool m1x, .slice o1x n1x c1x, .slice p1x k1x d1x, .bool m1y, .slice o1y n1y c1y, .slice p1y k1y d1y, .bool sxm, .slice sxo sxn sxc, .slice sxp sxk sxd, .bool sym, .slice syo syn syc, .slice syp syk syd, .bool m3x, .slice o3x n3x c3x, .slice p3x k3x d3x, .bool m3y, .slice o3y n3y c3y, .slice p3y k3y d3y] := ((((((pp1_1.set 6 (.bool sxm)).set 7 (.slice sxo sxn sxc)).set 8 (.slice sxp sxk sxd)).set 9 (.bool sym)).set 10 (.slice syo syn syc)).set 11 (.slice syp syk syd))
    rw [hslw20] at pp1_2
    go_wp2_with (first | refine wpList_load_box rfl 97 _ rfl hpcA _ rfl Try.underlying97 rfl (by kernel_rfl) ?_ | refine wpList_store_box rfl _ _ _ rfl [.bool m1x, .slice o1x n1x c1x, .slice p1x k1x d1x, .bool m1y, .slice o1y n1y c1y, .slice p1y k1y d1y, .bool m2x, .slice o2x n2x c2x, .slice p2x k2x d2x, .bool m2y, .slice o2y n2y c2y, .slice p2y k2y d2y, .bool m3x, .slice o3x n3x c3x, .slice p3x k3x d3x, .bool m3y, .slice o3y n3y c3y, .slice p3y k3y d3y] pp1_0 rfl rfl (by kernel_rfl) (by simp) rfl hslw19 ?_ | refine wpList_store_box rfl _ _ _ rfl [.bool sxm, .slice sxo sxn sxc, .slice sxp sxk sxd, .bool sym, .slice syo syn syc, .slice syp syk syd] pp1_1 rfl rfl (by kernel_rfl) (by simp) rfl hslw20 ?_)
    clear hpcA
    clear pse0 pse1 pse2 pse3 pse4 pse5 pse6 pse7 pse8 pse9 pse10 pse11 hslw19 hslw20 hB_13 fsx_13 fsy_13 pa_13 pb_13 pv_13 ps_13 pr_13 f1x_13 f1y_13 f2x_13 f2y_13 f3x_13 f3y_13 pc_13 f5_10 pw_9 po_8 f20_2 pp1_0 hB_14 fsx_14 fsy_14 pa_14 pb_14 pv_14 ps_14 pr_14 f1x_14 f1y_14 f2x_14 f2y_14 f3x_14 f3y_14 pc_14 f5_11 pw_10 po_9 f20_3 pp1_1
    have hB_16 := hB_15.drew'
    have fsx_16 := fsx_15.drew
    have fsy_16 := fsy_15.drew
    have pa_16 := pa_15.drew
    have pb_16 := pb_15.drew
    have pv_16 := pv_15.drew
    have ps_16 := ps_15.drew
    have pr_16 := pr_15.drew
    have f1x_16 := f1x_15.drew
    have f1y_16 := f1y_15.drew
    have f2x_16 := f2x_15.drew
    have f2y_16 := f2y_15.drew
    have f3x_16 := f3x_15.drew
    have f3y_16 := f3y_15.drew
    have pc_16 := pc_15.drew
    have f5_13 := f5_12.drew
    have pw_12 := pw_11.drew
    have po_11 := po_10.drew
    have f20_5 := f20_4.drew
    have pp1_3 := pp1_2.drew
    clear hB_15 fsx_15 fsy_15 pa_15 pb_15 pv_15 ps_15 pr_15 f1x_15 f1y_15 f2x_15 f2y_15 f3x_15 f3y_15 pc_15 f5_12 pw_11 po_10 f20_4 pp1_2
    go_region_held3 (fun w' => w'.cell? ⟨w9.heap.size, 0, none⟩ = some (.bool m5) ∧ w'.cell? ⟨w9.heap.size, 1, none⟩ = some (.slice o5 n5 c5) ∧ w'.cell? ⟨w9.heap.size, 2, none⟩ = some (.slice p5 k5 d5))
      (first | with_reducible exact ⟨pw_12.c0, pw_12.c1, pw_12.c2⟩ | with_reducible exact ⟨pw_13.c0, pw_13.c1, pw_13.c2⟩ | with_reducible exact ⟨pw_14.c0, pw_14.c1, pw_14.c2⟩ | with_reducible exact ⟨pw_15.c0, pw_15.c1, pw_15.c2⟩ | fail)
      (first
        | (go_at_call 28; (with_reducible refine (sArea2_three L _ _ _ _ _ _ _ (by have := HL.out; omega) pp1_3 (f1x_16.q.more HL1.out) (f1y_16.q.more HL1.out) fsx_16 fsy_16 (f3x_16.q.more HL1.out) (f3y_16.q.more HL1.out)).mono ?_); rintro e w21 ⟨m11, o11, n11, c11, p11, k11, d11, rfl, f11_0, hb21⟩; have hB_17 := hB_16.trans (hb21.mono hB_16.size); have fsx_17 := fsx_16.below hb21; have fsy_17 := fsy_16.below hb21; have pa_17 := pa_16.below hb21; have pb_17 := pb_16.below hb21; have pv_17 := pv_16.below hb21; have ps_17 := ps_16.below hb21; have pr_17 := pr_16.below hb21; have f1x_17 := f1x_16.below hb21; have f1y_17 := f1y_16.below hb21; have f2x_17 := f2x_16.below hb21; have f2y_17 := f2y_16.below hb21; have f3x_17 := f3x_16.below hb21; have f3y_17 := f3y_16.below hb21; have pc_17 := pc_16.below hb21; have f5_14 := f5_13.below hb21; have pw_13 := pw_12.below hb21; have po_12 := po_11.below hb21; have f20_6 := f20_5.below hb21; have pp1_4 := pp1_3.below hb21; clear hb21 hB_16 fsx_16 fsy_16 pa_16 pb_16 pv_16 ps_16 pr_16 f1x_16 f1y_16 f2x_16 f2y_16 f3x_16 f3y_16 pc_16 f5_13 pw_12 po_11 f20_5 pp1_3)
        | (go_at_call 67; (with_reducible refine (qDiv _ _ (1 + 3 * (((L + L + 2) + (L + L + 2) + 2) + 2)) (max 2 1) _ _ _ (by have := HL.out; omega) (by omega) f11_0.q f5_14.q (ic_ne H0.out)).mono ?_); rintro e w22 ⟨m21, o21, n21, c21, p21, k21, d21, rfl, f21_0, hb22⟩; have hB_18 := hB_17.trans (hb22.mono hB_17.size); have fsx_18 := fsx_17.below hb22; have fsy_18 := fsy_17.below hb22; have pa_18 := pa_17.below hb22; have pb_18 := pb_17.below hb22; have pv_18 := pv_17.below hb22; have ps_18 := ps_17.below hb22; have pr_18 := pr_17.below hb22; have f1x_18 := f1x_17.below hb22; have f1y_18 := f1y_17.below hb22; have f2x_18 := f2x_17.below hb22; have f2y_18 := f2y_17.below hb22; have f3x_18 := f3x_17.below hb22; have f3y_18 := f3y_17.below hb22; have pc_18 := pc_17.below hb22; have f5_15 := f5_14.below hb22; have pw_14 := pw_13.below hb22; have po_13 := po_12.below hb22; have f20_7 := f20_6.below hb22; have pp1_5 := pp1_4.below hb22; have f11_1 := f11_0.below hb22; clear hb22 hB_17 fsx_17 fsy_17 pa_17 pb_17 pv_17 ps_17 pr_17 f1x_17 f1y_17 f2x_17 f2y_17 f3x_17 f3y_17 pc_17 f5_14 pw_13 po_12 f20_6 pp1_4 f11_0; have sf2c0 := po_13.c 3 _ rfl; have sf2f0 := po_13.f 3 _ rfl; have sf2b0 : Box (World.setCell w22 ⟨w9.heap.size + 1, 3, none⟩ (.bool m21)) (w9.heap.size + 1) [.bool m20, .slice o20 n20 c20, .slice p20 k20 d20, .bool m21, .slice none 0 0, .slice none 0 0, .bool false, .slice none 0 0, .slice none 0 0] := po_13.set 3 (.bool m21); have sf2c1 := sf2b0.c 4 _ rfl; have sf2f1 := sf2b0.f 4 _ rfl; have sf2b1 : Box (World.setCell (World.setCell w22 ⟨w9.heap.size + 1, 3, none⟩ (.bool m21)) ⟨w9.heap.size + 1, 4, none⟩ (.slice o21 n21 c21)) (w9.heap.size + 1) [.bool m20, .slice o20 n20 c20, .slice p20 k20 d20, .bool m21, .slice o21 n21 c21, .slice none 0 0, .bool false, .slice none 0 0, .slice none 0 0] := sf2b0.set 4 (.slice o21 n21 c21); have sf2c2 := sf2b1.c 5 _ rfl; have sf2f2 := sf2b1.f 5 _ rfl; have hB_19 := below_setFrom (g := w9.heap.size + 1) (by omega) [.bool m21, .slice o21 n21 c21, .slice p21 k21 d21] 3 hB_18; have fsx_19 := fsx_18.kept (Kept.setPart po_13 (noWordB _ rfl) 3 [.bool m21, .slice o21 n21 c21, .slice p21 k21 d21] (by simp)); have fsy_19 := fsy_18.kept (Kept.setPart po_13 (noWordB _ rfl) 3 [.bool m21, .slice o21 n21 c21, .slice p21 k21 d21] (by simp)); have pa_19 := Box.farFrom (g' := w9.heap.size + 1) (by omega) [.bool m21, .slice o21 n21 c21, .slice p21 k21 d21] 3 pa_18; have pb_19 := Box.farFrom (g' := w9.heap.size + 1) (by omega) [.bool m21, .slice o21 n21 c21, .slice p21 k21 d21] 3 pb_18; have pv_19 := Box.farFrom (g' := w9.heap.size + 1) (by omega) [.bool m21, .slice o21 n21 c21, .slice p21 k21 d21] 3 pv_18; have ps_19 := Box.farFrom (g' := w9.heap.size + 1) (by omega) [.bool m21, .slice o21 n21 c21, .slice p21 k21 d21] 3 ps_18; have pr_19 := Box.farFrom (g' := w9.heap.size + 1) (by omega) [.bool m21, .slice o21 n21 c21, .slice p21 k21 d21] 3 pr_18; have f1x_19 := f1x_18.kept (Kept.setPart po_13 (noWordB _ rfl) 3 [.bool m21, .slice o21 n21 c21, .slice p21 k21 d21] (by simp)); have f1y_19 := f1y_18.kept (Kept.setPart po_13 (noWordB _ rfl) 3 [.bool m21, .slice o21 n21 c21, .slice p21 k21 d21] (by simp)); have f2x_19 := f2x_18.kept (Kept.setPart po_13 (noWordB _ rfl) 3 [.bool m21, .slice o21 n21 c21, .slice p21 k21 d21] (by simp)); have f2y_19 := f2y_18.kept (Kept.setPart po_13 (noWordB _ rfl) 3 [.bool m21, .slice o21 n21 c21, .slice p21 k21 d21] (by simp)); have f3x_19 := f3x_18.kept (Kept.setPart po_13 (noWordB _ rfl) 3 [.bool m21, .slice o21 n21 c21, .slice p21 k21 d21] (by simp)); have f3y_19 := f3y_18.kept (Kept.setPart po_13 (noWordB _ rfl) 3 [.bool m21, .slice o21 n21 c21, .slice p21 k21 d21] (by simp)); have pc_19 := Box.farFrom (g' := w9.heap.size + 1) (by omega) [.bool m21, .slice o21 n21 c21, .slice p21 k21 d21] 3 pc_18; have f5_16 := f5_15.kept (Kept.setPart po_13 (noWordB _ rfl) 3 [.bool m21, .slice o21 n21 c21, .slice p21 k21 d21] (by simp)); have pw_15 := Box.farFrom (g' := w9.heap.size + 1) (by omega) [.bool m21, .slice o21 n21 c21, .slice p21 k21 d21] 3 pw_14; have f20_8 := f20_7.kept (Kept.setPart po_13 (noWordB _ rfl) 3 [.bool m21, .slice o21 n21 c21, .slice p21 k21 d21] (by simp)); have pp1_6 := Box.farFrom (g' := w9.heap.size + 1) (by omega) [.bool m21, .slice o21 n21 c21, .slice p21 k21 d21] 3 pp1_5; have f11_2 := f11_1.kept (Kept.setPart po_13 (noWordB _ rfl) 3 [.bool m21, .slice o21 n21 c21, .slice p21 k21 d21] (by simp)); have f21_1 := f21_0.kept (Kept.setPart po_13 (noWordB _ rfl) 3 [.bool m21, .slice o21 n21 c21, .slice p21 k21 d21] (by simp)); simp only [setAll, Nat.reduceAdd] at hB_19 fsx_19 fsy_19 pa_19 pb_19 pv_19 ps_19 pr_19 f1x_19 f1y_19 f2x_19 f2y_19 f3x_19 f3y_19 pc_19 f5_16 pw_15 f20_8 pp1_6 f11_2 f21_1; have po_14 : Box (World.setCell (World.setCell (World.setCell w22 ⟨w9.heap.size + 1, 3, none⟩ (.bool m21)) ⟨w9.heap.size + 1, 4, none⟩ (.slice o21 n21 c21)) ⟨w9.heap.size + 1, 5, none⟩ (.slice p21 k21 d21)) (w9.heap.size + 1) [.bool m20, .slice o20 n20 c20, .slice p20 k20 d20, .bool m21, .slice o21 n21 c21, .slice p21 k21 d21, .bool false, .slice none 0 0, .slice none 0 0] := (((po_13.set 3 (.bool m21)).set 4 (.slice o21 n21 c21)).set 5 (.slice p21 k21 d21))))
    clear hB_18 fsx_18 fsy_18 pa_18 pb_18 pv_18 ps_18 pr_18 f1x_18 f1y_18 f2x_18 f2y_18 f3x_18 f3y_18 pc_18 f5_15 pw_14 f20_7 pp1_5 f11_1 f21_0 po_13
    clear sf2c0 sf2f0 sf2b0 sf2c1 sf2f1 sf2b1 sf2c2 sf2f2
    generalize (World.setCell (World.setCell (World.setCell w22 ⟨w9.heap.size + 1, 3, none⟩ (.bool m21)) ⟨w9.heap.size + 1, 4, none⟩ (.slice o21 n21 c21)) ⟨w9.heap.size + 1, 5, none⟩ (.slice p21 k21 d21)) = w23 at *
    clear f11_2 pp1_6
    go_wp2
    rw [rounds_succ]
    have hpcA := pc_19
    have hl4pa := pa_19.lt
    have hl4pb := pb_19.lt
    have hl4pv := pv_19.lt
    have hl4ps := ps_19.lt
    have hl4pr := pr_19.lt
    have hl4pc := pc_19.lt
    have hl4pw := pw_15.lt
    have hl4po := po_14.lt
    have hl4B := hB_19.size
    obtain ⟨w24, hw24, pp2_0, hb24, hs24⟩ := new_box w23 (w23.heap.size) rfl [.bool false, .slice none 0 0, .slice none 0 0, .bool false, .slice none 0 0, .slice none 0 0, .bool false, .slice none 0 0, .slice none 0 0, .bool false, .slice none 0 0, .slice none 0 0, .bool false, .slice none 0 0, .slice none 0 0, .bool false, .slice none 0 0, .slice none 0 0] 97
    have hb24' : Below w23.heap.size w23 w24 := hb24.mono (by omega)
    clear hb24
    have hB_20 := hB_19.trans (hb24'.mono hB_19.size)
    have fsx_20 := fsx_19.below hb24'
    have fsy_20 := fsy_19.below hb24'
    have pa_20 := pa_19.below hb24'
    have pb_20 := pb_19.below hb24'
    have pv_20 := pv_19.below hb24'
    have ps_20 := ps_19.below hb24'
    have pr_20 := pr_19.below hb24'
    have f1x_20 := f1x_19.below hb24'
    have f1y_20 := f1y_19.below hb24'
    have f2x_20 := f2x_19.below hb24'
    have f2y_20 := f2y_19.below hb24'
    have f3x_20 := f3x_19.below hb24'
    have f3y_20 := f3y_19.below hb24'
    have pc_20 := pc_19.below hb24'
    have f5_17 := f5_16.below hb24'
    have pw_16 := pw_15.below hb24'
    have po_15 := po_14.below hb24'
    have f20_9 := f20_8.below hb24'
    have f21_2 := f21_1.below hb24'
    clear hb24' hB_19 fsx_19 fsy_19 pa_19 pb_19 pv_19 ps_19 pr_19 f1x_19 f1y_19 f2x_19 f2y_19 f3x_19 f3y_19 pc_19 f5_16 pw_15 po_14 f20_8 f21_1
    clear hs24
    obtain ⟨w25, hslw25⟩ : ∃ q, Go.MagM.setAll w24 (w23.heap.size) 0 [.bool m1x, .slice o1x n1x c1x, .slice p1x k1x d1x, .bool m1y, .slice o1y n1y c1y, .slice p1y k1y d1y, .bool m2x, .slice o2x n2x c2x, .slice p2x k2x d2x, .bool m2y, .slice o2y n2y c2y, .slice p2y k2y d2y, .bool m3x, .slice o3x n3x c3x, .slice p3x k3x d3x, .bool m3y, .slice o3y n3y c3y, .slice p3y k3y d3y] = q := ⟨_, rfl⟩
    have hB_21 := below_setFrom (g := w23.heap.size) (by omega) [.bool m1x, .slice o1x n1x c1x, .slice p1x k1x d1x, .bool m1y, .slice o1y n1y c1y, .slice p1y k1y d1y, .bool m2x, .slice o2x n2x c2x, .slice p2x k2x d2x, .bool m2y, .slice o2y n2y c2y, .slice p2y k2y d2y, .bool m3x, .slice o3x n3x c3x, .slice p3x k3x d3x, .bool m3y, .slice o3y n3y c3y, .slice p3y k3y d3y] 0 hB_20
    rw [hslw25] at hB_21
    have fsx_21 := fsx_20.kept (Kept.setPart pp2_0 (noWordB _ rfl) 0 [.bool m1x, .slice o1x n1x c1x, .slice p1x k1x d1x, .bool m1y, .slice o1y n1y c1y, .slice p1y k1y d1y, .bool m2x, .slice o2x n2x c2x, .slice p2x k2x d2x, .bool m2y, .slice o2y n2y c2y, .slice p2y k2y d2y, .bool m3x, .slice o3x n3x c3x, .slice p3x k3x d3x, .bool m3y, .slice o3y n3y c3y, .slice p3y k3y d3y] (by simp))
    rw [hslw25] at fsx_21
    have fsy_21 := fsy_20.kept (Kept.setPart pp2_0 (noWordB _ rfl) 0 [.bool m1x, .slice o1x n1x c1x, .slice p1x k1x d1x, .bool m1y, .slice o1y n1y c1y, .slice p1y k1y d1y, .bool m2x, .slice o2x n2x c2x, .slice p2x k2x d2x, .bool m2y, .slice o2y n2y c2y, .slice p2y k2y d2y, .bool m3x, .slice o3x n3x c3x, .slice p3x k3x d3x, .bool m3y, .slice o3y n3y c3y, .slice p3y k3y d3y] (by simp))
    rw [hslw25] at fsy_21
    have pa_21 := Box.farFrom (g' := w23.heap.size) (by omega) [.bool m1x, .slice o1x n1x c1x, .slice p1x k1x d1x, .bool m1y, .slice o1y n1y c1y, .slice p1y k1y d1y, .bool m2x, .slice o2x n2x c2x, .slice p2x k2x d2x, .bool m2y, .slice o2y n2y c2y, .slice p2y k2y d2y, .bool m3x, .slice o3x n3x c3x, .slice p3x k3x d3x, .bool m3y, .slice o3y n3y c3y, .slice p3y k3y d3y] 0 pa_20
    rw [hslw25] at pa_21
    have pb_21 := Box.farFrom (g' := w23.heap.size) (by omega) [.bool m1x, .slice o1x n1x c1x, .slice p1x k1x d1x, .bool m1y, .slice o1y n1y c1y, .slice p1y k1y d1y, .bool m2x, .slice o2x n2x c2x, .slice p2x k2x d2x, .bool m2y, .slice o2y n2y c2y, .slice p2y k2y d2y, .bool m3x, .slice o3x n3x c3x, .slice p3x k3x d3x, .bool m3y, .slice o3y n3y c3y, .slice p3y k3y d3y] 0 pb_20
    rw [hslw25] at pb_21
    have pv_21 := Box.farFrom (g' := w23.heap.size) (by omega) [.bool m1x, .slice o1x n1x c1x, .slice p1x k1x d1x, .bool m1y, .slice o1y n1y c1y, .slice p1y k1y d1y, .bool m2x, .slice o2x n2x c2x, .slice p2x k2x d2x, .bool m2y, .slice o2y n2y c2y, .slice p2y k2y d2y, .bool m3x, .slice o3x n3x c3x, .slice p3x k3x d3x, .bool m3y, .slice o3y n3y c3y, .slice p3y k3y d3y] 0 pv_20
    rw [hslw25] at pv_21
    have ps_21 := Box.farFrom (g' := w23.heap.size) (by omega) [.bool m1x, .slice o1x n1x c1x, .slice p1x k1x d1x, .bool m1y, .slice o1y n1y c1y, .slice p1y k1y d1y, .bool m2x, .slice o2x n2x c2x, .slice p2x k2x d2x, .bool m2y, .slice o2y n2y c2y, .slice p2y k2y d2y, .bool m3x, .slice o3x n3x c3x, .slice p3x k3x d3x, .bool m3y, .slice o3y n3y c3y, .slice p3y k3y d3y] 0 ps_20
    rw [hslw25] at ps_21
    have pr_21 := Box.farFrom (g' := w23.heap.size) (by omega) [.bool m1x, .slice o1x n1x c1x, .slice p1x k1x d1x, .bool m1y, .slice o1y n1y c1y, .slice p1y k1y d1y, .bool m2x, .slice o2x n2x c2x, .slice p2x k2x d2x, .bool m2y, .slice o2y n2y c2y, .slice p2y k2y d2y, .bool m3x, .slice o3x n3x c3x, .slice p3x k3x d3x, .bool m3y, .slice o3y n3y c3y, .slice p3y k3y d3y] 0 pr_20
    rw [hslw25] at pr_21
    have f1x_21 := f1x_20.kept (Kept.setPart pp2_0 (noWordB _ rfl) 0 [.bool m1x, .slice o1x n1x c1x, .slice p1x k1x d1x, .bool m1y, .slice o1y n1y c1y, .slice p1y k1y d1y, .bool m2x, .slice o2x n2x c2x, .slice p2x k2x d2x, .bool m2y, .slice o2y n2y c2y, .slice p2y k2y d2y, .bool m3x, .slice o3x n3x c3x, .slice p3x k3x d3x, .bool m3y, .slice o3y n3y c3y, .slice p3y k3y d3y] (by simp))
    rw [hslw25] at f1x_21
    have f1y_21 := f1y_20.kept (Kept.setPart pp2_0 (noWordB _ rfl) 0 [.bool m1x, .slice o1x n1x c1x, .slice p1x k1x d1x, .bool m1y, .slice o1y n1y c1y, .slice p1y k1y d1y, .bool m2x, .slice o2x n2x c2x, .slice p2x k2x d2x, .bool m2y, .slice o2y n2y c2y, .slice p2y k2y d2y, .bool m3x, .slice o3x n3x c3x, .slice p3x k3x d3x, .bool m3y, .slice o3y n3y c3y, .slice p3y k3y d3y] (by simp))
    rw [hslw25] at f1y_21
    have f2x_21 := f2x_20.kept (Kept.setPart pp2_0 (noWordB _ rfl) 0 [.bool m1x, .slice o1x n1x c1x, .slice p1x k1x d1x, .bool m1y, .slice o1y n1y c1y, .slice p1y k1y d1y, .bool m2x, .slice o2x n2x c2x, .slice p2x k2x d2x, .bool m2y, .slice o2y n2y c2y, .slice p2y k2y d2y, .bool m3x, .slice o3x n3x c3x, .slice p3x k3x d3x, .bool m3y, .slice o3y n3y c3y, .slice p3y k3y d3y] (by simp))
    rw [hslw25] at f2x_21
    have f2y_21 := f2y_20.kept (Kept.setPart pp2_0 (noWordB _ rfl) 0 [.bool m1x, .slice o1x n1x c1x, .slice p1x k1x d1x, .bool m1y, .slice o1y n1y c1y, .slice p1y k1y d1y, .bool m2x, .slice o2x n2x c2x, .slice p2x k2x d2x, .bool m2y, .slice o2y n2y c2y, .slice p2y k2y d2y, .bool m3x, .slice o3x n3x c3x, .slice p3x k3x d3x, .bool m3y, .slice o3y n3y c3y, .slice p3y k3y d3y] (by simp))
    rw [hslw25] at f2y_21
    have f3x_21 := f3x_20.kept (Kept.setPart pp2_0 (noWordB _ rfl) 0 [.bool m1x, .slice o1x n1x c1x, .slice p1x k1x d1x, .bool m1y, .slice o1y n1y c1y, .slice p1y k1y d1y, .bool m2x, .slice o2x n2x c2x, .slice p2x k2x d2x, .bool m2y, .slice o2y n2y c2y, .slice p2y k2y d2y, .bool m3x, .slice o3x n3x c3x, .slice p3x k3x d3x, .bool m3y, .slice o3y n3y c3y, .slice p3y k3y d3y] (by simp))
    rw [hslw25] at f3x_21
    have f3y_21 := f3y_20.kept (Kept.setPart pp2_0 (noWordB _ rfl) 0 [.bool m1x, .slice o1x n1x c1x, .slice p1x k1x d1x, .bool m1y, .slice o1y n1y c1y, .slice p1y k1y d1y, .bool m2x, .slice o2x n2x c2x, .slice p2x k2x d2x, .bool m2y, .slice o2y n2y c2y, .slice p2y k2y d2y, .bool m3x, .slice o3x n3x c3x, .slice p3x k3x d3x, .bool m3y, .slice o3y n3y c3y, .slice p3y k3y d3y] (by simp))
    rw [hslw25] at f3y_21
    have pc_21 := Box.farFrom (g' := w23.heap.size) (by omega) [.bool m1x, .slice o1x n1x c1x, .slice p1x k1x d1x, .bool m1y, .slice o1y n1y c1y, .slice p1y k1y d1y, .bool m2x, .slice o2x n2x c2x, .slice p2x k2x d2x, .bool m2y, .slice o2y n2y c2y, .slice p2y k2y d2y, .bool m3x, .slice o3x n3x c3x, .slice p3x k3x d3x, .bool m3y, .slice o3y n3y c3y, .slice p3y k3y d3y] 0 pc_20
    rw [hslw25] at pc_21
    have f5_18 := f5_17.kept (Kept.setPart pp2_0 (noWordB _ rfl) 0 [.bool m1x, .slice o1x n1x c1x, .slice p1x k1x d1x, .bool m1y, .slice o1y n1y c1y, .slice p1y k1y d1y, .bool m2x, .slice o2x n2x c2x, .slice p2x k2x d2x, .bool m2y, .slice o2y n2y c2y, .slice p2y k2y d2y, .bool m3x, .slice o3x n3x c3x, .slice p3x k3x d3x, .bool m3y, .slice o3y n3y c3y, .slice p3y k3y d3y] (by simp))
    rw [hslw25] at f5_18
    have pw_17 := Box.farFrom (g' := w23.heap.size) (by omega) [.bool m1x, .slice o1x n1x c1x, .slice p1x k1x d1x, .bool m1y, .slice o1y n1y c1y, .slice p1y k1y d1y, .bool m2x, .slice o2x n2x c2x, .slice p2x k2x d2x, .bool m2y, .slice o2y n2y c2y, .slice p2y k2y d2y, .bool m3x, .slice o3x n3x c3x, .slice p3x k3x d3x, .bool m3y, .slice o3y n3y c3y, .slice p3y k3y d3y] 0 pw_16
    rw [hslw25] at pw_17
    have po_16 := Box.farFrom (g' := w23.heap.size) (by omega) [.bool m1x, .slice o1x n1x c1x, .slice p1x k1x d1x, .bool m1y, .slice o1y n1y c1y, .slice p1y k1y d1y, .bool m2x, .slice o2x n2x c2x, .slice p2x k2x d2x, .bool m2y, .slice o2y n2y c2y, .slice p2y k2y d2y, .bool m3x, .slice o3x n3x c3x, .slice p3x k3x d3x, .bool m3y, .slice o3y n3y c3y, .slice p3y k3y d3y] 0 po_15
    rw [hslw25] at po_16
    have f20_10 := f20_9.kept (Kept.setPart pp2_0 (noWordB _ rfl) 0 [.bool m1x, .slice o1x n1x c1x, .slice p1x k1x d1x, .bool m1y, .slice o1y n1y c1y, .slice p1y k1y d1y, .bool m2x, .slice o2x n2x c2x, .slice p2x k2x d2x, .bool m2y, .slice o2y n2y c2y, .slice p2y k2y d2y, .bool m3x, .slice o3x n3x c3x, .slice p3x k3x d3x, .bool m3y, .slice o3y n3y c3y, .slice p3y k3y d3y] (by simp))
    rw [hslw25] at f20_10
    have f21_3 := f21_2.kept (Kept.setPart pp2_0 (noWordB _ rfl) 0 [.bool m1x, .slice o1x n1x c1x, .slice p1x k1x d1x, .bool m1y, .slice o1y n1y c1y, .slice p1y k1y d1y, .bool m2x, .slice o2x n2x c2x, .slice p2x k2x d2x, .bool m2y, .slice o2y n2y c2y, .slice p2y k2y d2y, .bool m3x, .slice o3x n3x c3x, .slice p3x k3x d3x, .bool m3y, .slice o3y n3y c3y, .slice p3y k3y d3y] (by simp))
    rw [hslw25] at f21_3
    have pp2_1 := pp2_0.setAll [.bool m1x, .slice o1x n1x c1x, .slice p1x k1x d1x, .bool m1y, .slice o1y n1y c1y, .slice p1y k1y d1y, .bool m2x, .slice o2x n2x c2x, .slice p2x k2x d2x, .bool m2y, .slice o2y n2y c2y, .slice p2y k2y d2y, .bool m3x, .slice o3x n3x c3x, .slice p3x k3x d3x, .bool m3y, .slice o3y n3y c3y, .slice p3y k3y d3y] rfl
    rw [hslw25] at pp2_1
    obtain ⟨pse0, pse1, pse2, pse3, pse4, pse5, pse6, pse7, pse8, pse9, pse10, pse11⟩ := ps_21.open6
    obtain ⟨w26, hslw26⟩ : ∃ q, Go.MagM.setAll w25 (w23.heap.size) 12 [.bool sxm, .slice sxo sxn sxc, .slice sxp sxk sxd, .bool sym, .slice syo syn syc, .slice syp syk syd] = q := ⟨_, rfl⟩
    have hB_22 := below_setFrom (g := w23.heap.size) (by omega) [.bool sxm, .slice sxo sxn sxc, .slice sxp sxk sxd, .bool sym, .slice syo syn syc, .slice syp syk syd] 12 hB_21
    rw [hslw26] at hB_22
    have fsx_22 := fsx_21.kept (Kept.setPart pp2_1 (noWordB _ rfl) 12 [.bool sxm, .slice sxo sxn sxc, .slice sxp sxk sxd, .bool sym, .slice syo syn syc, .slice syp syk syd] (by simp))
    rw [hslw26] at fsx_22
    have fsy_22 := fsy_21.kept (Kept.setPart pp2_1 (noWordB _ rfl) 12 [.bool sxm, .slice sxo sxn sxc, .slice sxp sxk sxd, .bool sym, .slice syo syn syc, .slice syp syk syd] (by simp))
    rw [hslw26] at fsy_22
    have pa_22 := Box.farFrom (g' := w23.heap.size) (by omega) [.bool sxm, .slice sxo sxn sxc, .slice sxp sxk sxd, .bool sym, .slice syo syn syc, .slice syp syk syd] 12 pa_21
    rw [hslw26] at pa_22
    have pb_22 := Box.farFrom (g' := w23.heap.size) (by omega) [.bool sxm, .slice sxo sxn sxc, .slice sxp sxk sxd, .bool sym, .slice syo syn syc, .slice syp syk syd] 12 pb_21
    rw [hslw26] at pb_22
    have pv_22 := Box.farFrom (g' := w23.heap.size) (by omega) [.bool sxm, .slice sxo sxn sxc, .slice sxp sxk sxd, .bool sym, .slice syo syn syc, .slice syp syk syd] 12 pv_21
    rw [hslw26] at pv_22
    have ps_22 := Box.farFrom (g' := w23.heap.size) (by omega) [.bool sxm, .slice sxo sxn sxc, .slice sxp sxk sxd, .bool sym, .slice syo syn syc, .slice syp syk syd] 12 ps_21
    rw [hslw26] at ps_22
    have pr_22 := Box.farFrom (g' := w23.heap.size) (by omega) [.bool sxm, .slice sxo sxn sxc, .slice sxp sxk sxd, .bool sym, .slice syo syn syc, .slice syp syk syd] 12 pr_21
    rw [hslw26] at pr_22
    have f1x_22 := f1x_21.kept (Kept.setPart pp2_1 (noWordB _ rfl) 12 [.bool sxm, .slice sxo sxn sxc, .slice sxp sxk sxd, .bool sym, .slice syo syn syc, .slice syp syk syd] (by simp))
    rw [hslw26] at f1x_22
    have f1y_22 := f1y_21.kept (Kept.setPart pp2_1 (noWordB _ rfl) 12 [.bool sxm, .slice sxo sxn sxc, .slice sxp sxk sxd, .bool sym, .slice syo syn syc, .slice syp syk syd] (by simp))
    rw [hslw26] at f1y_22
    have f2x_22 := f2x_21.kept (Kept.setPart pp2_1 (noWordB _ rfl) 12 [.bool sxm, .slice sxo sxn sxc, .slice sxp sxk sxd, .bool sym, .slice syo syn syc, .slice syp syk syd] (by simp))
    rw [hslw26] at f2x_22
    have f2y_22 := f2y_21.kept (Kept.setPart pp2_1 (noWordB _ rfl) 12 [.bool sxm, .slice sxo sxn sxc, .slice sxp sxk sxd, .bool sym, .slice syo syn syc, .slice syp syk syd] (by simp))
    rw [hslw26] at f2y_22
    have f3x_22 := f3x_21.kept (Kept.setPart pp2_1 (noWordB _ rfl) 12 [.bool sxm, .slice sxo sxn sxc, .slice sxp sxk sxd, .bool sym, .slice syo syn syc, .slice syp syk syd] (by simp))
    rw [hslw26] at f3x_22
    have f3y_22 := f3y_21.kept (Kept.setPart pp2_1 (noWordB _ rfl) 12 [.bool sxm, .slice sxo sxn sxc, .slice sxp sxk sxd, .bool sym, .slice syo syn syc, .slice syp syk syd] (by simp))
    rw [hslw26] at f3y_22
    have pc_22 := Box.farFrom (g' := w23.heap.size) (by omega) [.bool sxm, .slice sxo sxn sxc, .slice sxp sxk sxd, .bool sym, .slice syo syn syc, .slice syp syk syd] 12 pc_21
    rw [hslw26] at pc_22
    have f5_19 := f5_18.kept (Kept.setPart pp2_1 (noWordB _ rfl) 12 [.bool sxm, .slice sxo sxn sxc, .slice sxp sxk sxd, .bool sym, .slice syo syn syc, .slice syp syk syd] (by simp))
    rw [hslw26] at f5_19
    have pw_18 := Box.farFrom (g' := w23.heap.size) (by omega) [.bool sxm, .slice sxo sxn sxc, .slice sxp sxk sxd, .bool sym, .slice syo syn syc, .slice syp syk syd] 12 pw_17
    rw [hslw26] at pw_18
    have po_17 := Box.farFrom (g' := w23.heap.size) (by omega) [.bool sxm, .slice sxo sxn sxc, .slice sxp sxk sxd, .bool sym, .slice syo syn syc, .slice syp syk syd] 12 po_16
    rw [hslw26] at po_17
    have f20_11 := f20_10.kept (Kept.setPart pp2_1 (noWordB _ rfl) 12 [.bool sxm, .slice sxo sxn sxc, .slice sxp sxk sxd, .bool sym, .slice syo syn syc, .slice syp syk syd] (by simp))
    rw [hslw26] at f20_11
    have f21_4 := f21_3.kept (Kept.setPart pp2_1 (noWordB _ rfl) 12 [.bool sxm, .slice sxo sxn sxc, .slice sxp sxk sxd, .bool sym, .slice syo syn syc, .slice syp syk syd] (by simp))
    rw [hslw26] at f21_4
    have pp2_2 : Box (Go.MagM.setAll w25 (w23.heap.size) 12 [.bool sxm, .slice sxo sxn sxc, .slice sxp sxk sxd, .bool sym, .slice syo syn syc, .slice syp syk syd]) (w23.heap.size) [.bool m1x, .slice o1x n1x c1x, .slice p1x k1x d1x, .bool m1y, .slice o1y n1y c1y, .slice p1y k1y d1y, .bool m2x, .slice o2x n2x c2x, .slice p2x k2x d2x, .bool m2y, .slice o2y n2y c2y, .slice p2y k2y d2y, .bool sxm, .slice sxo sxn sxc, .slice sxp sxk sxd, .bool sym, .slice syo syn syc, .slice syp syk syd] := ((((((pp2_1.set 12 (.bool sxm)).set 13 (.slice sxo sxn sxc)).set 14 (.slice sxp sxk sxd)).set 15 (.bool sym)).set 16 (.slice syo syn syc)).set 17 (.slice syp syk syd))
    rw [hslw26] at pp2_2
    go_wp2_with (first | refine wpList_load_box rfl 97 _ rfl hpcA _ rfl Try.underlying97 rfl (by kernel_rfl) ?_ | refine wpList_store_box rfl _ _ _ rfl [.bool m1x, .slice o1x n1x c1x, .slice p1x k1x d1x, .bool m1y, .slice o1y n1y c1y, .slice p1y k1y d1y, .bool m2x, .slice o2x n2x c2x, .slice p2x k2x d2x, .bool m2y, .slice o2y n2y c2y, .slice p2y k2y d2y, .bool m3x, .slice o3x n3x c3x, .slice p3x k3x d3x, .bool m3y, .slice o3y n3y c3y, .slice p3y k3y d3y] pp2_0 rfl rfl (by kernel_rfl) (by simp) rfl hslw25 ?_ | refine wpList_store_box rfl _ _ _ rfl [.bool sxm, .slice sxo sxn sxc, .slice sxp sxk sxd, .bool sym, .slice syo syn syc, .slice syp syk syd] pp2_1 rfl rfl (by kernel_rfl) (by simp) rfl hslw26 ?_)
    clear hpcA
    clear pse0 pse1 pse2 pse3 pse4 pse5 pse6 pse7 pse8 pse9 pse10 pse11 hslw25 hslw26 hB_20 fsx_20 fsy_20 pa_20 pb_20 pv_20 ps_20 pr_20 f1x_20 f1y_20 f2x_20 f2y_20 f3x_20 f3y_20 pc_20 f5_17 pw_16 po_15 f20_9 f21_2 pp2_0 hB_21 fsx_21 fsy_21 pa_21 pb_21 pv_21 ps_21 pr_21 f1x_21 f1y_21 f2x_21 f2y_21 f3x_21 f3y_21 pc_21 f5_18 pw_17 po_16 f20_10 f21_3 pp2_1
    have hB_23 := hB_22.drew'
    have fsx_23 := fsx_22.drew
    have fsy_23 := fsy_22.drew
    have pa_23 := pa_22.drew
    have pb_23 := pb_22.drew
    have pv_23 := pv_22.drew
    have ps_23 := ps_22.drew
    have pr_23 := pr_22.drew
    have f1x_23 := f1x_22.drew
    have f1y_23 := f1y_22.drew
    have f2x_23 := f2x_22.drew
    have f2y_23 := f2y_22.drew
    have f3x_23 := f3x_22.drew
    have f3y_23 := f3y_22.drew
    have pc_23 := pc_22.drew
    have f5_20 := f5_19.drew
    have pw_19 := pw_18.drew
    have po_18 := po_17.drew
    have f20_12 := f20_11.drew
    have f21_5 := f21_4.drew
    have pp2_3 := pp2_2.drew
    clear hB_22 fsx_22 fsy_22 pa_22 pb_22 pv_22 ps_22 pr_22 f1x_22 f1y_22 f2x_22 f2y_22 f3x_22 f3y_22 pc_22 f5_19 pw_18 po_17 f20_11 f21_4 pp2_2
    go_region_held3 (fun w' => w'.cell? ⟨w9.heap.size, 0, none⟩ = some (.bool m5) ∧ w'.cell? ⟨w9.heap.size, 1, none⟩ = some (.slice o5 n5 c5) ∧ w'.cell? ⟨w9.heap.size, 2, none⟩ = some (.slice p5 k5 d5))
      (first | with_reducible exact ⟨pw_19.c0, pw_19.c1, pw_19.c2⟩ | with_reducible exact ⟨pw_20.c0, pw_20.c1, pw_20.c2⟩ | with_reducible exact ⟨pw_21.c0, pw_21.c1, pw_21.c2⟩ | with_reducible exact ⟨pw_22.c0, pw_22.c1, pw_22.c2⟩ | fail)
      (first
        | (go_at_call 28; (with_reducible refine (sArea2_three L _ _ _ _ _ _ _ (by have := HL.out; omega) pp2_3 (f1x_23.q.more HL1.out) (f1y_23.q.more HL1.out) (f2x_23.q.more HL1.out) (f2y_23.q.more HL1.out) fsx_23 fsy_23).mono ?_); rintro e w27 ⟨m12, o12, n12, c12, p12, k12, d12, rfl, f12_0, hb27⟩; have hB_24 := hB_23.trans (hb27.mono hB_23.size); have fsx_24 := fsx_23.below hb27; have fsy_24 := fsy_23.below hb27; have pa_24 := pa_23.below hb27; have pb_24 := pb_23.below hb27; have pv_24 := pv_23.below hb27; have ps_24 := ps_23.below hb27; have pr_24 := pr_23.below hb27; have f1x_24 := f1x_23.below hb27; have f1y_24 := f1y_23.below hb27; have f2x_24 := f2x_23.below hb27; have f2y_24 := f2y_23.below hb27; have f3x_24 := f3x_23.below hb27; have f3y_24 := f3y_23.below hb27; have pc_24 := pc_23.below hb27; have f5_21 := f5_20.below hb27; have pw_20 := pw_19.below hb27; have po_19 := po_18.below hb27; have f20_13 := f20_12.below hb27; have f21_6 := f21_5.below hb27; have pp2_4 := pp2_3.below hb27; clear hb27 hB_23 fsx_23 fsy_23 pa_23 pb_23 pv_23 ps_23 pr_23 f1x_23 f1y_23 f2x_23 f2y_23 f3x_23 f3y_23 pc_23 f5_20 pw_19 po_18 f20_12 f21_5 pp2_3)
        | (go_at_call 67; (with_reducible refine (qDiv _ _ (1 + 3 * (((L + L + 2) + (L + L + 2) + 2) + 2)) (max 2 1) _ _ _ (by have := HL.out; omega) (by omega) f12_0.q f5_21.q (ic_ne H0.out)).mono ?_); rintro e w28 ⟨m22, o22, n22, c22, p22, k22, d22, rfl, f22_0, hb28⟩; have hB_25 := hB_24.trans (hb28.mono hB_24.size); have fsx_25 := fsx_24.below hb28; have fsy_25 := fsy_24.below hb28; have pa_25 := pa_24.below hb28; have pb_25 := pb_24.below hb28; have pv_25 := pv_24.below hb28; have ps_25 := ps_24.below hb28; have pr_25 := pr_24.below hb28; have f1x_25 := f1x_24.below hb28; have f1y_25 := f1y_24.below hb28; have f2x_25 := f2x_24.below hb28; have f2y_25 := f2y_24.below hb28; have f3x_25 := f3x_24.below hb28; have f3y_25 := f3y_24.below hb28; have pc_25 := pc_24.below hb28; have f5_22 := f5_21.below hb28; have pw_21 := pw_20.below hb28; have po_20 := po_19.below hb28; have f20_14 := f20_13.below hb28; have f21_7 := f21_6.below hb28; have pp2_5 := pp2_4.below hb28; have f12_1 := f12_0.below hb28; clear hb28 hB_24 fsx_24 fsy_24 pa_24 pb_24 pv_24 ps_24 pr_24 f1x_24 f1y_24 f2x_24 f2y_24 f3x_24 f3y_24 pc_24 f5_21 pw_20 po_19 f20_13 f21_6 pp2_4 f12_0; have sf3c0 := po_20.c 6 _ rfl; have sf3f0 := po_20.f 6 _ rfl; have sf3b0 : Box (World.setCell w28 ⟨w9.heap.size + 1, 6, none⟩ (.bool m22)) (w9.heap.size + 1) [.bool m20, .slice o20 n20 c20, .slice p20 k20 d20, .bool m21, .slice o21 n21 c21, .slice p21 k21 d21, .bool m22, .slice none 0 0, .slice none 0 0] := po_20.set 6 (.bool m22); have sf3c1 := sf3b0.c 7 _ rfl; have sf3f1 := sf3b0.f 7 _ rfl; have sf3b1 : Box (World.setCell (World.setCell w28 ⟨w9.heap.size + 1, 6, none⟩ (.bool m22)) ⟨w9.heap.size + 1, 7, none⟩ (.slice o22 n22 c22)) (w9.heap.size + 1) [.bool m20, .slice o20 n20 c20, .slice p20 k20 d20, .bool m21, .slice o21 n21 c21, .slice p21 k21 d21, .bool m22, .slice o22 n22 c22, .slice none 0 0] := sf3b0.set 7 (.slice o22 n22 c22); have sf3c2 := sf3b1.c 8 _ rfl; have sf3f2 := sf3b1.f 8 _ rfl; have hB_26 := below_setFrom (g := w9.heap.size + 1) (by omega) [.bool m22, .slice o22 n22 c22, .slice p22 k22 d22] 6 hB_25; have fsx_26 := fsx_25.kept (Kept.setPart po_20 (noWordB _ rfl) 6 [.bool m22, .slice o22 n22 c22, .slice p22 k22 d22] (by simp)); have fsy_26 := fsy_25.kept (Kept.setPart po_20 (noWordB _ rfl) 6 [.bool m22, .slice o22 n22 c22, .slice p22 k22 d22] (by simp)); have pa_26 := Box.farFrom (g' := w9.heap.size + 1) (by omega) [.bool m22, .slice o22 n22 c22, .slice p22 k22 d22] 6 pa_25; have pb_26 := Box.farFrom (g' := w9.heap.size + 1) (by omega) [.bool m22, .slice o22 n22 c22, .slice p22 k22 d22] 6 pb_25; have pv_26 := Box.farFrom (g' := w9.heap.size + 1) (by omega) [.bool m22, .slice o22 n22 c22, .slice p22 k22 d22] 6 pv_25; have ps_26 := Box.farFrom (g' := w9.heap.size + 1) (by omega) [.bool m22, .slice o22 n22 c22, .slice p22 k22 d22] 6 ps_25; have pr_26 := Box.farFrom (g' := w9.heap.size + 1) (by omega) [.bool m22, .slice o22 n22 c22, .slice p22 k22 d22] 6 pr_25; have f1x_26 := f1x_25.kept (Kept.setPart po_20 (noWordB _ rfl) 6 [.bool m22, .slice o22 n22 c22, .slice p22 k22 d22] (by simp)); have f1y_26 := f1y_25.kept (Kept.setPart po_20 (noWordB _ rfl) 6 [.bool m22, .slice o22 n22 c22, .slice p22 k22 d22] (by simp)); have f2x_26 := f2x_25.kept (Kept.setPart po_20 (noWordB _ rfl) 6 [.bool m22, .slice o22 n22 c22, .slice p22 k22 d22] (by simp)); have f2y_26 := f2y_25.kept (Kept.setPart po_20 (noWordB _ rfl) 6 [.bool m22, .slice o22 n22 c22, .slice p22 k22 d22] (by simp)); have f3x_26 := f3x_25.kept (Kept.setPart po_20 (noWordB _ rfl) 6 [.bool m22, .slice o22 n22 c22, .slice p22 k22 d22] (by simp)); have f3y_26 := f3y_25.kept (Kept.setPart po_20 (noWordB _ rfl) 6 [.bool m22, .slice o22 n22 c22, .slice p22 k22 d22] (by simp)); have pc_26 := Box.farFrom (g' := w9.heap.size + 1) (by omega) [.bool m22, .slice o22 n22 c22, .slice p22 k22 d22] 6 pc_25; have f5_23 := f5_22.kept (Kept.setPart po_20 (noWordB _ rfl) 6 [.bool m22, .slice o22 n22 c22, .slice p22 k22 d22] (by simp)); have pw_22 := Box.farFrom (g' := w9.heap.size + 1) (by omega) [.bool m22, .slice o22 n22 c22, .slice p22 k22 d22] 6 pw_21; have f20_15 := f20_14.kept (Kept.setPart po_20 (noWordB _ rfl) 6 [.bool m22, .slice o22 n22 c22, .slice p22 k22 d22] (by simp)); have f21_8 := f21_7.kept (Kept.setPart po_20 (noWordB _ rfl) 6 [.bool m22, .slice o22 n22 c22, .slice p22 k22 d22] (by simp)); have pp2_6 := Box.farFrom (g' := w9.heap.size + 1) (by omega) [.bool m22, .slice o22 n22 c22, .slice p22 k22 d22] 6 pp2_5; have f12_2 := f12_1.kept (Kept.setPart po_20 (noWordB _ rfl) 6 [.bool m22, .slice o22 n22 c22, .slice p22 k22 d22] (by simp)); have f22_1 := f22_0.kept (Kept.setPart po_20 (noWordB _ rfl) 6 [.bool m22, .slice o22 n22 c22, .slice p22 k22 d22] (by simp)); simp only [setAll, Nat.reduceAdd] at hB_26 fsx_26 fsy_26 pa_26 pb_26 pv_26 ps_26 pr_26 f1x_26 f1y_26 f2x_26 f2y_26 f3x_26 f3y_26 pc_26 f5_23 pw_22 f20_15 f21_8 pp2_6 f12_2 f22_1; have po_21 : Box (World.setCell (World.setCell (World.setCell w28 ⟨w9.heap.size + 1, 6, none⟩ (.bool m22)) ⟨w9.heap.size + 1, 7, none⟩ (.slice o22 n22 c22)) ⟨w9.heap.size + 1, 8, none⟩ (.slice p22 k22 d22)) (w9.heap.size + 1) [.bool m20, .slice o20 n20 c20, .slice p20 k20 d20, .bool m21, .slice o21 n21 c21, .slice p21 k21 d21, .bool m22, .slice o22 n22 c22, .slice p22 k22 d22] := (((po_20.set 6 (.bool m22)).set 7 (.slice o22 n22 c22)).set 8 (.slice p22 k22 d22))))
    clear hB_25 fsx_25 fsy_25 pa_25 pb_25 pv_25 ps_25 pr_25 f1x_25 f1y_25 f2x_25 f2y_25 f3x_25 f3y_25 pc_25 f5_22 pw_21 f20_14 f21_7 pp2_5 f12_1 f22_0 po_20
    clear sf3c0 sf3f0 sf3b0 sf3c1 sf3f1 sf3b1 sf3c2 sf3f2
    generalize (World.setCell (World.setCell (World.setCell w28 ⟨w9.heap.size + 1, 6, none⟩ (.bool m22)) ⟨w9.heap.size + 1, 7, none⟩ (.slice o22 n22 c22)) ⟨w9.heap.size + 1, 8, none⟩ (.slice p22 k22 d22)) = w29 at *
    clear f12_2 pp2_6
    go_wp2
    rw [rounds_succ]
    have hpoA := po_21
    obtain ⟨w30, hslw30⟩ : ∃ q, Go.MagM.setAll w29 (w.heap.size + 1 + 1 + 1 + 1) 0 [.bool m20, .slice o20 n20 c20, .slice p20 k20 d20, .bool m21, .slice o21 n21 c21, .slice p21 k21 d21, .bool m22, .slice o22 n22 c22, .slice p22 k22 d22] = q := ⟨_, rfl⟩
    have hB_27 := below_setFrom (g := w.heap.size + 1 + 1 + 1 + 1) (by omega) [.bool m20, .slice o20 n20 c20, .slice p20 k20 d20, .bool m21, .slice o21 n21 c21, .slice p21 k21 d21, .bool m22, .slice o22 n22 c22, .slice p22 k22 d22] 0 hB_26
    rw [hslw30] at hB_27
    have fsx_27 := fsx_26.kept (Kept.setPart pr_26 (noWordB _ rfl) 0 [.bool m20, .slice o20 n20 c20, .slice p20 k20 d20, .bool m21, .slice o21 n21 c21, .slice p21 k21 d21, .bool m22, .slice o22 n22 c22, .slice p22 k22 d22] (by simp))
    rw [hslw30] at fsx_27
    have fsy_27 := fsy_26.kept (Kept.setPart pr_26 (noWordB _ rfl) 0 [.bool m20, .slice o20 n20 c20, .slice p20 k20 d20, .bool m21, .slice o21 n21 c21, .slice p21 k21 d21, .bool m22, .slice o22 n22 c22, .slice p22 k22 d22] (by simp))
    rw [hslw30] at fsy_27
    have pa_27 := Box.farFrom (g' := w.heap.size + 1 + 1 + 1 + 1) (by omega) [.bool m20, .slice o20 n20 c20, .slice p20 k20 d20, .bool m21, .slice o21 n21 c21, .slice p21 k21 d21, .bool m22, .slice o22 n22 c22, .slice p22 k22 d22] 0 pa_26
    rw [hslw30] at pa_27
    have pb_27 := Box.farFrom (g' := w.heap.size + 1 + 1 + 1 + 1) (by omega) [.bool m20, .slice o20 n20 c20, .slice p20 k20 d20, .bool m21, .slice o21 n21 c21, .slice p21 k21 d21, .bool m22, .slice o22 n22 c22, .slice p22 k22 d22] 0 pb_26
    rw [hslw30] at pb_27
    have pv_27 := Box.farFrom (g' := w.heap.size + 1 + 1 + 1 + 1) (by omega) [.bool m20, .slice o20 n20 c20, .slice p20 k20 d20, .bool m21, .slice o21 n21 c21, .slice p21 k21 d21, .bool m22, .slice o22 n22 c22, .slice p22 k22 d22] 0 pv_26
    rw [hslw30] at pv_27
    have ps_27 := Box.farFrom (g' := w.heap.size + 1 + 1 + 1 + 1) (by omega) [.bool m20, .slice o20 n20 c20, .slice p20 k20 d20, .bool m21, .slice o21 n21 c21, .slice p21 k21 d21, .bool m22, .slice o22 n22 c22, .slice p22 k22 d22] 0 ps_26
    rw [hslw30] at ps_27
    have f1x_27 := f1x_26.kept (Kept.setPart pr_26 (noWordB _ rfl) 0 [.bool m20, .slice o20 n20 c20, .slice p20 k20 d20, .bool m21, .slice o21 n21 c21, .slice p21 k21 d21, .bool m22, .slice o22 n22 c22, .slice p22 k22 d22] (by simp))
    rw [hslw30] at f1x_27
    have f1y_27 := f1y_26.kept (Kept.setPart pr_26 (noWordB _ rfl) 0 [.bool m20, .slice o20 n20 c20, .slice p20 k20 d20, .bool m21, .slice o21 n21 c21, .slice p21 k21 d21, .bool m22, .slice o22 n22 c22, .slice p22 k22 d22] (by simp))
    rw [hslw30] at f1y_27
    have f2x_27 := f2x_26.kept (Kept.setPart pr_26 (noWordB _ rfl) 0 [.bool m20, .slice o20 n20 c20, .slice p20 k20 d20, .bool m21, .slice o21 n21 c21, .slice p21 k21 d21, .bool m22, .slice o22 n22 c22, .slice p22 k22 d22] (by simp))
    rw [hslw30] at f2x_27
    have f2y_27 := f2y_26.kept (Kept.setPart pr_26 (noWordB _ rfl) 0 [.bool m20, .slice o20 n20 c20, .slice p20 k20 d20, .bool m21, .slice o21 n21 c21, .slice p21 k21 d21, .bool m22, .slice o22 n22 c22, .slice p22 k22 d22] (by simp))
    rw [hslw30] at f2y_27
    have f3x_27 := f3x_26.kept (Kept.setPart pr_26 (noWordB _ rfl) 0 [.bool m20, .slice o20 n20 c20, .slice p20 k20 d20, .bool m21, .slice o21 n21 c21, .slice p21 k21 d21, .bool m22, .slice o22 n22 c22, .slice p22 k22 d22] (by simp))
    rw [hslw30] at f3x_27
    have f3y_27 := f3y_26.kept (Kept.setPart pr_26 (noWordB _ rfl) 0 [.bool m20, .slice o20 n20 c20, .slice p20 k20 d20, .bool m21, .slice o21 n21 c21, .slice p21 k21 d21, .bool m22, .slice o22 n22 c22, .slice p22 k22 d22] (by simp))
    rw [hslw30] at f3y_27
    have pc_27 := Box.farFrom (g' := w.heap.size + 1 + 1 + 1 + 1) (by omega) [.bool m20, .slice o20 n20 c20, .slice p20 k20 d20, .bool m21, .slice o21 n21 c21, .slice p21 k21 d21, .bool m22, .slice o22 n22 c22, .slice p22 k22 d22] 0 pc_26
    rw [hslw30] at pc_27
    have f5_24 := f5_23.kept (Kept.setPart pr_26 (noWordB _ rfl) 0 [.bool m20, .slice o20 n20 c20, .slice p20 k20 d20, .bool m21, .slice o21 n21 c21, .slice p21 k21 d21, .bool m22, .slice o22 n22 c22, .slice p22 k22 d22] (by simp))
    rw [hslw30] at f5_24
    have pw_23 := Box.farFrom (g' := w.heap.size + 1 + 1 + 1 + 1) (by omega) [.bool m20, .slice o20 n20 c20, .slice p20 k20 d20, .bool m21, .slice o21 n21 c21, .slice p21 k21 d21, .bool m22, .slice o22 n22 c22, .slice p22 k22 d22] 0 pw_22
    rw [hslw30] at pw_23
    have po_22 := Box.farFrom (g' := w.heap.size + 1 + 1 + 1 + 1) (by omega) [.bool m20, .slice o20 n20 c20, .slice p20 k20 d20, .bool m21, .slice o21 n21 c21, .slice p21 k21 d21, .bool m22, .slice o22 n22 c22, .slice p22 k22 d22] 0 po_21
    rw [hslw30] at po_22
    have f20_16 := f20_15.kept (Kept.setPart pr_26 (noWordB _ rfl) 0 [.bool m20, .slice o20 n20 c20, .slice p20 k20 d20, .bool m21, .slice o21 n21 c21, .slice p21 k21 d21, .bool m22, .slice o22 n22 c22, .slice p22 k22 d22] (by simp))
    rw [hslw30] at f20_16
    have f21_9 := f21_8.kept (Kept.setPart pr_26 (noWordB _ rfl) 0 [.bool m20, .slice o20 n20 c20, .slice p20 k20 d20, .bool m21, .slice o21 n21 c21, .slice p21 k21 d21, .bool m22, .slice o22 n22 c22, .slice p22 k22 d22] (by simp))
    rw [hslw30] at f21_9
    have f22_2 := f22_1.kept (Kept.setPart pr_26 (noWordB _ rfl) 0 [.bool m20, .slice o20 n20 c20, .slice p20 k20 d20, .bool m21, .slice o21 n21 c21, .slice p21 k21 d21, .bool m22, .slice o22 n22 c22, .slice p22 k22 d22] (by simp))
    rw [hslw30] at f22_2
    have pr_27 := pr_26.setAll [.bool m20, .slice o20 n20 c20, .slice p20 k20 d20, .bool m21, .slice o21 n21 c21, .slice p21 k21 d21, .bool m22, .slice o22 n22 c22, .slice p22 k22 d22] rfl
    rw [hslw30] at pr_27
    clear hB_26 fsx_26 fsy_26 pa_26 pb_26 pv_26 ps_26 f1x_26 f1y_26 f2x_26 f2y_26 f3x_26 f3y_26 pc_26 f5_23 pw_22 po_21 f20_15 f21_8 f22_1
    obtain ⟨pre0, pre1, pre2, pre3, pre4, pre5, pre6, pre7, pre8, pre9, pre10, pre11, pre12, pre13, pre14, pre15, pre16, pre17⟩ := pr_27.open9
    go_wp2_with (first | refine wpList_load_box rfl 66 _ rfl hpoA _ rfl Try.underlying66 rfl (by kernel_rfl) ?_ | refine wpList_store_box rfl _ _ _ rfl [.bool m20, .slice o20 n20 c20, .slice p20 k20 d20, .bool m21, .slice o21 n21 c21, .slice p21 k21 d21, .bool m22, .slice o22 n22 c22, .slice p22 k22 d22] pr_26 rfl rfl (by kernel_rfl) (by simp) rfl hslw30 ?_ | exact bodyPost_ret (v := .agg #[.bool m20, .slice o20 n20 c20, .slice p20 k20 d20, .bool m21, .slice o21 n21 c21, .slice p21 k21 d21, .bool m22, .slice o22 n22 c22, .slice p22 k22 d22]) (results_cell_box Try.results39 _ _ _ _ _ rfl pr_27 Try.underlying66 rfl (by kernel_rfl)) rfl ⟨_, _, _, _, _, _, _, _, _, _, _, _, _, _, _, _, _, _, _, _, _, rfl, f20_16, f21_9, f22_2, hB_27⟩)
  · right
    refine ⟨?_, fun i hi => ?_⟩
    · clear zF F1 F3 F5 F6 F7
      cases lb1
      · exact ready_of 1 _ rfl rfl (by kernel_rfl)
      cases lb3
      · exact ready_of 3 _ rfl rfl (by kernel_rfl)
      cases lb5
      · exact ready_of 5 _ rfl rfl (by kernel_rfl)
      cases lb6
      · exact ready_of 6 _ rfl rfl (by kernel_rfl)
      cases lb7
      · exact ready_of 7 _ rfl rfl (by kernel_rfl)
      exact absurd ⟨rfl, rfl, rfl, rfl, rfl⟩ hL
    have hd : (lb1 = false ∧ i = 1) ∨ (lb3 = false ∧ lb1 = true ∧ i = 3) ∨ (lb5 = false ∧ lb3 = true ∧ i = 5) ∨ (lb6 = false ∧ lb1 = true ∧ lb3 = true ∧ lb5 = true ∧ i = 6) ∨ (lb7 = false ∧ i = 7) := by
      have hin := ready_lt hi
      obtain rfl | rfl | rfl | rfl | rfl | rfl | rfl | rfl | rfl : i = 0 ∨ i = 1 ∨ i = 2 ∨ i = 3 ∨ i = 4 ∨ i = 5 ∨ i = 6 ∨ i = 7 ∨ i = 8 := by have hin' : i < 9 := hin; omega
      · exact absurd (ready_off hi) (fun h => Bool.noConfusion (show true = false from h))
      · exact .inl ⟨ready_off hi, rfl⟩
      · exact absurd (ready_off hi) (fun h => Bool.noConfusion (show true = false from h))
      · exact .inr (.inl ⟨ready_off hi, ready_dep (d := 1) hi (by kernel_rfl), rfl⟩)
      · exact absurd (ready_off hi) (fun h => Bool.noConfusion (show true = false from h))
      · exact .inr (.inr (.inl ⟨ready_off hi, ready_dep (d := 3) hi (by kernel_rfl), rfl⟩))
      · exact .inr (.inr (.inr (.inl ⟨ready_off hi, ready_dep (d := 1) hi (by kernel_rfl), ready_dep (d := 3) hi (by kernel_rfl), ready_dep (d := 5) hi (by kernel_rfl), rfl⟩)))
      · exact .inr (.inr (.inr (.inr (⟨ready_off hi, rfl⟩))))
      · have k7 : lb7 = true := ready_dep (d := 7) hi (by kernel_rfl); have k6 : lb6 = true := ready_dep (d := 6) hi (by kernel_rfl); have k5 : lb5 = true := ready_dep (d := 5) hi (by kernel_rfl); have k1 : lb1 = true := ready_dep (d := 1) hi (by kernel_rfl); have k3 : lb3 = true := ready_dep (d := 3) hi (by kernel_rfl)
        exact absurd ⟨k1, k3, k5, k6, k7⟩ hL
    clear hi hL
    rcases hd with ⟨rfl, rfl⟩ | ⟨rfl, rfl, rfl⟩ | ⟨rfl, rfl, rfl⟩ | ⟨rfl, rfl, rfl, rfl, rfl⟩ | ⟨rfl, rfl⟩
    · refine step_of 1 ?_ ?_ (fun K hK => ?_)
      rotate_left 1
      · simp only [List.getElem?_toArray, List.getElem?_cons_succ, List.getElem?_cons_zero]; exact rfl
      rw [HAi.out]
      try simp only [Act.put]
      try simp only [List.setIfInBounds_toArray, List.set_cons_zero, List.set_cons_succ]
      go_simp
      refine (sOf_any a0 a1 HA0.out HA1.out _).mono ?_
      rintro e w31 ⟨m1x, o1x, n1x, c1x, p1x, k1x, d1x, m1y, o1y, n1y, c1y, p1y, k1y, d1y, rfl, f1x_0, f1y_0, hb⟩
      go_wp2_with fail
      refine hK.out _ _ (sFi (cFi zF hb)) ?_
      exact (hIVi _ _ _).2 (fun CC kk => kk true lb3 lb5 lb6 lb7 (.agg #[.bool m1x, .slice o1x n1x c1x, .slice p1x k1x d1x, .bool m1y, .slice o1y n1y c1y, .slice p1y k1y d1y]) lv3 lv5 lv6 lv7 m1x o1x n1x c1x p1x k1x d1x m1y o1y n1y c1y p1y k1y d1y m2x o2x n2x c2x p2x k2x d2x m2y o2y n2y c2y p2y k2y d2y m3x o3x n3x c3x p3x k3x d3x m3y o3y n3y c3y p3y k3y d3y gpc rfl (by simp only [HAi.out, Act.put, List.setIfInBounds_toArray, List.set_cons_zero, List.set_cons_succ]) (cFi zF hb) (fun _ => ⟨rfl, f1x_0, f1y_0⟩) (fun h => absurd (dp3_1 h) (by decide)) (fun h => absurd (dp3_1 (dp5_3 h)) (by decide)) (fun h => absurd (dp6_1 h) (by decide)) (fun h => ⟨(F7 h).1, (F7 h).2.1.below hb, (F7 h).2.2⟩) (fun _ => rfl) dp5_3 (fun _ => rfl) dp6_3 dp6_5)
    · obtain ⟨rfl, f1x_0, f1y_0⟩ := F1 rfl
      clear F1
      refine step_of 3 ?_ ?_ (fun K hK => ?_)
      rotate_left 1
      · simp only [List.getElem?_toArray, List.getElem?_cons_succ, List.getElem?_cons_zero]; exact rfl
      rw [HAi.out]
      try simp only [Act.put]
      try simp only [List.setIfInBounds_toArray, List.set_cons_zero, List.set_cons_succ]
      go_simp
      refine (sOf_any b0 b1 HB0.out HB1.out _).mono ?_
      rintro e w32 ⟨m2x, o2x, n2x, c2x, p2x, k2x, d2x, m2y, o2y, n2y, c2y, p2y, k2y, d2y, rfl, f2x_0, f2y_0, hb⟩
      go_wp2_with fail
      refine hK.out _ _ (sFi (cFi zF hb)) ?_
      exact (hIVi _ _ _).2 (fun CC kk => kk true true lb5 lb6 lb7 _ (.agg #[.bool m2x, .slice o2x n2x c2x, .slice p2x k2x d2x, .bool m2y, .slice o2y n2y c2y, .slice p2y k2y d2y]) lv5 lv6 lv7 m1x o1x n1x c1x p1x k1x d1x m1y o1y n1y c1y p1y k1y d1y m2x o2x n2x c2x p2x k2x d2x m2y o2y n2y c2y p2y k2y d2y m3x o3x n3x c3x p3x k3x d3x m3y o3y n3y c3y p3y k3y d3y gpc rfl (by simp only [HAi.out, Act.put, List.setIfInBounds_toArray, List.set_cons_zero, List.set_cons_succ]) (cFi zF hb) (fun _ => ⟨rfl, f1x_0.below hb, f1y_0.below hb⟩) (fun _ => ⟨rfl, f2x_0, f2y_0⟩) (fun h => absurd (dp5_3 h) (by decide)) (fun h => absurd (dp6_3 h) (by decide)) (fun h => ⟨(F7 h).1, (F7 h).2.1.below hb, (F7 h).2.2⟩) (fun _ => rfl) (fun _ => rfl) (fun _ => rfl) (fun _ => rfl) dp6_5)
    · obtain rfl := dp3_1 rfl
      obtain ⟨rfl, f1x_0, f1y_0⟩ := F1 rfl
      clear F1
      obtain ⟨rfl, f2x_0, f2y_0⟩ := F3 rfl
      clear F3
      refine step_of 5 ?_ ?_ (fun K hK => ?_)
      rotate_left 1
      · simp only [List.getElem?_toArray, List.getElem?_cons_succ, List.getElem?_cons_zero]; exact rfl
      rw [HAi.out]
      try simp only [Act.put]
      try simp only [List.setIfInBounds_toArray, List.set_cons_zero, List.set_cons_succ]
      go_simp
      refine (sOf_any v0 v1 HV0.out HV1.out _).mono ?_
      rintro e w33 ⟨m3x, o3x, n3x, c3x, p3x, k3x, d3x, m3y, o3y, n3y, c3y, p3y, k3y, d3y, rfl, f3x_0, f3y_0, hb⟩
      go_wp2_with fail
      refine hK.out _ _ (sFi (cFi zF hb)) ?_
      exact (hIVi _ _ _).2 (fun CC kk => kk true true true lb6 lb7 _ _ (.agg #[.bool m3x, .slice o3x n3x c3x, .slice p3x k3x d3x, .bool m3y, .slice o3y n3y c3y, .slice p3y k3y d3y]) lv6 lv7 m1x o1x n1x c1x p1x k1x d1x m1y o1y n1y c1y p1y k1y d1y m2x o2x n2x c2x p2x k2x d2x m2y o2y n2y c2y p2y k2y d2y m3x o3x n3x c3x p3x k3x d3x m3y o3y n3y c3y p3y k3y d3y gpc rfl (by simp only [HAi.out, Act.put, List.setIfInBounds_toArray, List.set_cons_zero, List.set_cons_succ]) (cFi zF hb) (fun _ => ⟨rfl, f1x_0.below hb, f1y_0.below hb⟩) (fun _ => ⟨rfl, f2x_0.below hb, f2y_0.below hb⟩) (fun _ => ⟨rfl, f3x_0, f3y_0⟩) (fun h => absurd (dp6_5 h) (by decide)) (fun h => ⟨(F7 h).1, (F7 h).2.1.below hb, (F7 h).2.2⟩) (fun _ => rfl) (fun _ => rfl) (fun _ => rfl) (fun _ => rfl) (fun _ => rfl))
    · obtain ⟨rfl, f1x_0, f1y_0⟩ := F1 rfl
      clear F1
      obtain ⟨rfl, f2x_0, f2y_0⟩ := F3 rfl
      clear F3
      obtain ⟨rfl, f3x_0, f3y_0⟩ := F5 rfl
      clear F5
      refine step_of 6 ?_ ?_ (fun K hK => ?_)
      rotate_left 1
      · simp only [List.getElem?_toArray, List.getElem?_cons_succ, List.getElem?_cons_zero]; exact rfl
      rw [HAi.out]
      try simp only [Act.put]
      try simp only [List.setIfInBounds_toArray, List.set_cons_zero, List.set_cons_succ]
      go_simp
      refine hK.out _ _ (sFi zF) ?_
      exact (hIVi _ _ _).2 (fun CC kk => kk true true true true lb7 _ _ _ (.agg #[.bool m1x, .slice o1x n1x c1x, .slice p1x k1x d1x, .bool m1y, .slice o1y n1y c1y, .slice p1y k1y d1y, .bool m2x, .slice o2x n2x c2x, .slice p2x k2x d2x, .bool m2y, .slice o2y n2y c2y, .slice p2y k2y d2y, .bool m3x, .slice o3x n3x c3x, .slice p3x k3x d3x, .bool m3y, .slice o3y n3y c3y, .slice p3y k3y d3y]) lv7 m1x o1x n1x c1x p1x k1x d1x m1y o1y n1y c1y p1y k1y d1y m2x o2x n2x c2x p2x k2x d2x m2y o2y n2y c2y p2y k2y d2y m3x o3x n3x c3x p3x k3x d3x m3y o3y n3y c3y p3y k3y d3y gpc rfl (by simp only [HAi.out, Act.put, List.setIfInBounds_toArray, List.set_cons_zero, List.set_cons_succ]) zF (fun _ => ⟨rfl, f1x_0, f1y_0⟩) (fun _ => ⟨rfl, f2x_0, f2y_0⟩) (fun _ => ⟨rfl, f3x_0, f3y_0⟩) (fun _ => rfl) F7 (fun _ => rfl) (fun _ => rfl) (fun _ => rfl) (fun _ => rfl) (fun _ => rfl))
    · refine step_of 7 ?_ ?_ (fun K hK => ?_)
      rotate_left 1
      · simp only [List.getElem?_toArray, List.getElem?_cons_succ, List.getElem?_cons_zero]; exact rfl
      rw [HAi.out]
      try simp only [Act.put]
      try simp only [List.setIfInBounds_toArray, List.set_cons_zero, List.set_cons_succ]
      go_simp
      have hgn := mFi zF
      obtain ⟨wn, hwn, pc_0, hb, -⟩ := new_box w6 _ rfl [.bool false, .slice none 0 0, .slice none 0 0, .bool false, .slice none 0 0, .slice none 0 0, .bool false, .slice none 0 0, .slice none 0 0, .bool false, .slice none 0 0, .slice none 0 0, .bool false, .slice none 0 0, .slice none 0 0, .bool false, .slice none 0 0, .slice none 0 0] 97
      rw [hwn]
      refine hK.out _ _ (sFi (cFi zF hb)) ?_
      exact (hIVi _ _ _).2 (fun CC kk => kk lb1 lb3 lb5 lb6 true lv1 lv3 lv5 lv6 (.pointer (some ⟨w6.heap.size, 0, none⟩)) m1x o1x n1x c1x p1x k1x d1x m1y o1y n1y c1y p1y k1y d1y m2x o2x n2x c2x p2x k2x d2x m2y o2y n2y c2y p2y k2y d2y m3x o3x n3x c3x p3x k3x d3x m3y o3y n3y c3y p3y k3y d3y w6.heap.size rfl (by simp only [HAi.out, Act.put, List.setIfInBounds_toArray, List.set_cons_zero, List.set_cons_succ]) (cFi zF hb) (fun h => ⟨(F1 h).1, (F1 h).2.1.below hb, (F1 h).2.2.below hb⟩) (fun h => ⟨(F3 h).1, (F3 h).2.1.below hb, (F3 h).2.2.below hb⟩) (fun h => ⟨(F5 h).1, (F5 h).2.1.below hb, (F5 h).2.2.below hb⟩) F6 (fun _ => ⟨rfl, pc_0, hgn⟩) dp3_1 dp5_3 dp6_1 dp6_3 dp6_5)
end Go.Proofs.Ytkcfaddilknelaa
/- The statements' own Tame. -/
namespace Go.Proofs.Ytkcfaddilknelaa
open Go.RowKit Go.MagM
set_option maxHeartbeats 8000000 in
theorem tame1_s (am : Bool) (ao : Option Addr) (an ac : Nat) (ap : Option Addr) (ak ad : Nat) (uo up : Option Addr) (h j X D : Nat) (e1 : ∀ w : World, (Instr.slice 27 (Value.slice ao an ac) none (some (Value.int .i64 (((h) : Nat) : Int))) none).run Try.prog w = Result.ok (Value.slice uo h ac) w) (e2 : ∀ w : World, (Instr.slice 27 (Value.slice ap ak ad) none (some (Value.int .i64 (((j) : Nat) : Int))) none).run Try.prog w = Result.ok (Value.slice up j ad) w) (e3 : ∀ w : World, Sem.run Try.prog (Builtin.min_ #[3, 3] 3 #[.int .i64 ((an : Nat) : Int), .int .i64 1]) w = Result.ok (Value.int .i64 (((h) : Nat) : Int)) w) (e4 : ∀ w : World, Sem.run Try.prog (Builtin.min_ #[3, 3] 3 #[.int .i64 ((ak : Nat) : Int), .int .i64 1]) w = Result.ok (Value.int .i64 (((j) : Nat) : Int)) w) (w : World) (fn_0 : Mag w (.slice uo h ac) 1 X) (fd_0 : Mag w (.slice up j ad) 1 D) (h0 : sgn false D ≠ 0) :
    Calls Try.prog 51 #[.agg #[.bool am, .slice ao an ac, .slice ap ak ad]] w fun e w' => AnsF w w' e (1) (((sgn am X : Int) : Rat) / ((sgn false D : Int) : Rat)) := by
  have hB_0 := Below.refl w.heap.size w
  have H0 := Lib.hid h0; clear h0
  obtain ⟨w1, hw1, pa_0, hb1, hs1⟩ := new_box w (w.heap.size) rfl [.bool am, .slice ao an ac, .slice ap ak ad] 31
  have hb1' : Below w.heap.size w w1 := hb1.mono (by omega)
  clear hb1
  have hB_1 := hB_0.trans (hb1'.mono hB_0.size)
  have fn_1 := fn_0.below hb1'
  have fd_1 := fd_0.below hb1'
  clear hb1' hB_0 fn_0 fd_0
  obtain ⟨w2, hw2, pr_0, hb2, hs2⟩ := new_box w1 (w.heap.size + 1) hs1 [.bool false, .slice none 0 0, .slice none 0 0] 31
  have hb2' : Below w1.heap.size w1 w2 := hb2.mono (by omega)
  clear hb2
  have hB_2 := hB_1.trans (hb2'.mono hB_1.size)
  have fn_2 := fn_1.below hb2'
  have fd_2 := fd_1.below hb2'
  have pa_1 := pa_0.below hb2'
  clear hb2' hB_1 fn_1 fd_1 pa_0
  go_enter Try.func51, Try.ntmps51
  obtain ⟨pae0, pae1, pae2, pae3, pae4, pae5⟩ := pa_1.open3
  go_wp2
  clear pae0 pae1 pae2 pae3 pae4 pae5
  have hWq_0 := Below.refl w2.heap.size w2
  have hsq : w.heap.size ≤ w2.heap.size := hB_2.size
  have hlqpa := pa_1.lt
  have hlqpr := pr_0.lt
  have hB_3 := hB_2.drew'
  have fn_3 := fn_2.drew
  have fd_3 := fd_2.drew
  have pa_2 := pa_1.drew
  have pr_1 := pr_0.drew
  have hWq_1 := hWq_0.drew'
  clear hB_2 fn_2 fd_2 pa_1 pr_0 hWq_0
  refine wp_region_noPanic ?_
  refine wp_region_held_drew (S := fun w' => w'.cell? ⟨w.heap.size, 0, none⟩ = some (.bool am) ∧ w'.cell? ⟨w.heap.size, 1, none⟩ = some (.slice ao an ac) ∧ w'.cell? ⟨w.heap.size, 2, none⟩ = some (.slice ap ak ad)) (by kernel_rfl) (⟨pa_2.c0, pa_2.c1, pa_2.c2⟩) (fun hHeld => ?_)
  refine reg_take 0 ?_ ?_ ?_ (by kernel_rfl) (by kernel_rfl) (by kernel_rfl) (fun _ _ _ h => h) ?_ ?_ (by assumption) ?_
  rotate_left 2
  · simp only [List.getElem?_toArray, List.getElem?_cons_zero]; exact rfl
  · rfl
  · intro w hSw; (try dsimp only at hSw); go_simp; try with_reducible rfl
  try simp only [Act.put]
  try simp only [List.setIfInBounds_toArray, List.set_cons_zero, List.set_cons_succ]
  refine reg_take 1 ?_ ?_ ?_ (by kernel_rfl) (by kernel_rfl) (by kernel_rfl) (fun _ _ _ h => h) ?_ ?_ (by assumption) ?_
  rotate_left 2
  · simp only [List.getElem?_toArray, List.getElem?_cons_succ, List.getElem?_cons_zero]; exact rfl
  · rfl
  · intro w hSw; (try dsimp only at hSw); go_simp; try with_reducible rfl
  try simp only [Act.put]
  try simp only [List.setIfInBounds_toArray, List.set_cons_zero, List.set_cons_succ]
  refine reg_take 2 ?_ ?_ ?_ (by kernel_rfl) (by kernel_rfl) (by kernel_rfl) (fun _ _ _ h => h) ?_ ?_ (by assumption) ?_
  rotate_left 2
  · simp only [List.getElem?_toArray, List.getElem?_cons_succ, List.getElem?_cons_zero]; exact rfl
  · rfl
  · intro w hSw; (try dsimp only at hSw); go_simp; try with_reducible rfl
  try simp only [Act.put]
  try simp only [List.setIfInBounds_toArray, List.set_cons_zero, List.set_cons_succ]
  refine reg_take 3 ?_ ?_ ?_ (by kernel_rfl) (by kernel_rfl) (by kernel_rfl) (fun _ _ _ h => h) ?_ ?_ (by assumption) ?_
  rotate_left 2
  · simp only [List.getElem?_toArray, List.getElem?_cons_succ, List.getElem?_cons_zero]; exact rfl
  · rfl
  · intro w hSw; (try dsimp only at hSw); go_simp; try with_reducible rfl
  try simp only [Act.put]
  try simp only [List.setIfInBounds_toArray, List.set_cons_zero, List.set_cons_succ]
  refine reg_take 4 ?_ ?_ ?_ (by kernel_rfl) (by kernel_rfl) (by kernel_rfl) (fun _ _ _ h => h) ?_ ?_ (by assumption) ?_
  rotate_left 2
  · simp only [List.getElem?_toArray, List.getElem?_cons_succ, List.getElem?_cons_zero]; exact rfl
  · rfl
  · intro w hSw; (try dsimp only at hSw); go_simp; try with_reducible rfl
  try simp only [Act.put]
  try simp only [List.setIfInBounds_toArray, List.set_cons_zero, List.set_cons_succ]
  refine reg_take 5 ?_ ?_ ?_ (by kernel_rfl) (by kernel_rfl) (by kernel_rfl) (fun _ _ _ h => h) ?_ ?_ (by assumption) ?_
  rotate_left 2
  · simp only [List.getElem?_toArray, List.getElem?_cons_succ, List.getElem?_cons_zero]; exact rfl
  · rfl
  · intro w hSw; (try dsimp only at hSw); go_simp; try with_reducible rfl
  try simp only [Act.put]
  try simp only [List.setIfInBounds_toArray, List.set_cons_zero, List.set_cons_succ]
  refine reg_take 6 ?_ ?_ ?_ (by kernel_rfl) (by kernel_rfl) (by kernel_rfl) (fun _ _ _ h => h) ?_ ?_ (by assumption) ?_
  rotate_left 2
  · simp only [List.getElem?_toArray, List.getElem?_cons_succ, List.getElem?_cons_zero]; exact rfl
  · rfl
  · intro w hSw; (try dsimp only at hSw); go_simp; try with_reducible rfl
  try simp only [Act.put]
  try simp only [List.setIfInBounds_toArray, List.set_cons_zero, List.set_cons_succ]
  refine reg_take 7 ?_ ?_ ?_ (by kernel_rfl) (by kernel_rfl) (by kernel_rfl) (fun _ _ _ h => h) ?_ ?_ (by assumption) ?_
  rotate_left 2
  · simp only [List.getElem?_toArray, List.getElem?_cons_succ, List.getElem?_cons_zero]; exact rfl
  · rfl
  · intro w hSw; (try dsimp only at hSw); go_simp; try with_reducible rfl
  try simp only [Act.put]
  try simp only [List.setIfInBounds_toArray, List.set_cons_zero, List.set_cons_succ]
  refine reg_take 8 ?_ ?_ ?_ (by kernel_rfl) (by kernel_rfl) (by kernel_rfl) (fun _ _ _ h => h) ?_ ?_ (by assumption) ?_
  rotate_left 2
  · simp only [List.getElem?_toArray, List.getElem?_cons_succ, List.getElem?_cons_zero]; exact rfl
  · rfl
  · intro w hSw; (try dsimp only at hSw); go_simp; try with_reducible rfl
  try simp only [Act.put]
  try simp only [List.setIfInBounds_toArray, List.set_cons_zero, List.set_cons_succ]
  refine reg_take 9 ?_ ?_ ?_ (by kernel_rfl) (by kernel_rfl) (by kernel_rfl) (fun _ _ _ h => h) ?_ ?_ (by assumption) ?_
  rotate_left 2
  · simp only [List.getElem?_toArray, List.getElem?_cons_succ, List.getElem?_cons_zero]; exact rfl
  · rfl
  · intro w hSw; (try dsimp only at hSw); go_simp; try with_reducible rfl
  try simp only [Act.put]
  try simp only [List.setIfInBounds_toArray, List.set_cons_zero, List.set_cons_succ]
  refine reg_take 10 ?_ ?_ ?_ (by kernel_rfl) (by kernel_rfl) (by kernel_rfl) (fun _ _ _ h => h) ?_ ?_ (by assumption) ?_
  rotate_left 2
  · simp only [List.getElem?_toArray, List.getElem?_cons_succ, List.getElem?_cons_zero]; exact rfl
  · rfl
  · intro w hSw; (try dsimp only at hSw); go_simp; try with_reducible rfl
  try simp only [Act.put]
  try simp only [List.setIfInBounds_toArray, List.set_cons_zero, List.set_cons_succ]
  refine reg_take 11 ?_ ?_ ?_ (by kernel_rfl) (by kernel_rfl) (by kernel_rfl) (fun _ _ _ h => h) ?_ ?_ (by assumption) ?_
  rotate_left 2
  · simp only [List.getElem?_toArray, List.getElem?_cons_succ, List.getElem?_cons_zero]; exact rfl
  · rfl
  · intro w hSw; (try dsimp only at hSw); go_simp; try with_reducible rfl
  try simp only [Act.put]
  try simp only [List.setIfInBounds_toArray, List.set_cons_zero, List.set_cons_succ]
  refine reg_take 13 ?_ ?_ ?_ (by kernel_rfl) (by kernel_rfl) (by kernel_rfl) (fun _ _ _ h => h) ?_ ?_ (by assumption) ?_
  rotate_left 2
  · simp only [List.getElem?_toArray, List.getElem?_cons_succ, List.getElem?_cons_zero]; exact rfl
  · rfl
  · intro w hSw; (try dsimp only at hSw); go_simp; try with_reducible rfl
  try simp only [Act.put]
  try simp only [List.setIfInBounds_toArray, List.set_cons_zero, List.set_cons_succ]
  refine reg_take 14 ?_ ?_ ?_ (by kernel_rfl) (by kernel_rfl) (by kernel_rfl) (fun _ _ _ h => h) ?_ ?_ (by assumption) ?_
  rotate_left 2
  · simp only [List.getElem?_toArray, List.getElem?_cons_succ, List.getElem?_cons_zero]; exact rfl
  · rfl
  · intro w hSw; (try dsimp only at hSw); go_simp; try with_reducible rfl
  try simp only [Act.put]
  try simp only [List.setIfInBounds_toArray, List.set_cons_zero, List.set_cons_succ]
  refine reg_take 15 ?_ ?_ ?_ (by kernel_rfl) (by kernel_rfl) (by kernel_rfl) (fun _ _ _ h => h) ?_ ?_ (by assumption) ?_
  rotate_left 2
  · simp only [List.getElem?_toArray, List.getElem?_cons_succ, List.getElem?_cons_zero]; exact rfl
  · rfl
  · intro w hSw; (try dsimp only at hSw); go_simp; try with_reducible rfl
  try simp only [Act.put]
  try simp only [List.setIfInBounds_toArray, List.set_cons_zero, List.set_cons_succ]
  refine reg_take 16 ?_ ?_ ?_ (by kernel_rfl) (by kernel_rfl) (by kernel_rfl) (fun _ _ _ h => h) ?_ ?_ (by assumption) ?_
  rotate_left 2
  · simp only [List.getElem?_toArray, List.getElem?_cons_succ, List.getElem?_cons_zero]; exact rfl
  · rfl
  · intro w hSw; (try dsimp only at hSw); go_simp; try with_reducible rfl
  try simp only [Act.put]
  try simp only [List.setIfInBounds_toArray, List.set_cons_zero, List.set_cons_succ]
  refine reg_take 17 ?_ ?_ ?_ (by kernel_rfl) (by kernel_rfl) (by kernel_rfl) (fun _ _ _ h => h) ?_ ?_ (by assumption) ?_
  rotate_left 2
  · simp only [List.getElem?_toArray, List.getElem?_cons_succ, List.getElem?_cons_zero]; exact rfl
  · rfl
  · intro w hSw; (try dsimp only at hSw); go_simp; try with_reducible rfl
  try simp only [Act.put]
  try simp only [List.setIfInBounds_toArray, List.set_cons_zero, List.set_cons_succ]
  refine reg_take 18 ?_ ?_ ?_ (by kernel_rfl) (by kernel_rfl) (by kernel_rfl) (fun _ _ _ h => h) ?_ ?_ (by assumption) ?_
  rotate_left 2
  · simp only [List.getElem?_toArray, List.getElem?_cons_succ, List.getElem?_cons_zero]; exact rfl
  · rfl
  · intro w hSw; (try dsimp only at hSw); go_simp; try with_reducible rfl
  try simp only [Act.put]
  try simp only [List.setIfInBounds_toArray, List.set_cons_zero, List.set_cons_succ]
  refine reg_take 19 ?_ ?_ ?_ (by kernel_rfl) (by kernel_rfl) (by kernel_rfl) (fun _ _ _ h => h) ?_ ?_ (by assumption) ?_
  rotate_left 2
  · simp only [List.getElem?_toArray, List.getElem?_cons_succ, List.getElem?_cons_zero]; exact rfl
  · rfl
  · intro w hSw; (try dsimp only at hSw); go_simp; try with_reducible rfl
  try simp only [Act.put]
  try simp only [List.setIfInBounds_toArray, List.set_cons_zero, List.set_cons_succ]
  refine reg_grab (fun WWq aq hWW hAA => ?_)
  have HWq := Lib.hid hWW; have HAq := Lib.hid hAA; clear hWW hAA hHeld
  have stq_3t : ∀ (w' : World) (m1 : Bool) (o1 : Option Addr) (n1 : Nat) (c1 : Nat) (m2 : Bool) (o2 : Option Addr) (n2 : Nat) (c2 : Nat) (m3 : Bool) (o3 : Option Addr) (n3 : Nat) (c3 : Nat) (p3 : Option Addr) (k3 : Nat) (d3 : Nat) (gpb : Nat), Below w.heap.size w w' → Mag w' (.slice uo h ac) 1 X → Mag w' (.slice up j ad) 1 D → Box w' (w.heap.size) [.bool am, .slice ao an ac, .slice ap ak ad] → Box w' (w.heap.size + 1) [.bool false, .slice none 0 0, .slice none 0 0] → Below w2.heap.size w2 w' → RNum w' (.agg #[.bool m1, .slice o1 n1 c1]) (1) (sgn am X) → RNum w' (.agg #[.bool m2, .slice o2 n2 c2]) (1) (sgn false D) → RF w' (.agg #[.bool m3, .slice o3 n3 c3, .slice p3 k3 d3]) (max 1 1) (((sgn am X : Int) : Rat) / ((sgn false D : Int) : Rat)) → Box w' gpb [.bool false, .slice none 0 0, .slice none 0 0] → w2.heap.size ≤ gpb → WWq 2 #[true, true, true, true, true, true, true, true, true, true, true, true, true, true, true, true, true, true, true, true, true, true, true, true, true, true, false, false] (((((((aq.put (some 18) (.agg #[.bool m1, .slice o1 n1 c1])).put (some 26) (.agg #[.bool m2, .slice o2 n2 c2])).put (some 27) (.tuple #[.agg #[.bool m3, .slice o3 n3 c3, .slice p3 k3 d3], .bool true])).put (some 5) (.tuple #[.agg #[.bool m3, .slice o3 n3 c3, .slice p3 k3 d3], .bool true])).put (some 28) (.agg #[.bool m3, .slice o3 n3 c3, .slice p3 k3 d3])).put (some 29) (.bool true)).put (some 3) (.pointer (some ⟨gpb, 0, none⟩))) w' := by
    intro w3 m1 o1 n1 c1 m2 o2 n2 c2 m3 o3 n3 c3 p3 k3 d3 gpb hB_0 fn_0 fd_0 pa_0 pr_0 hWq_0 f1_0 f2_0 f3_0 pb_0 hgpb
    rw [HWq.out, HAq.out]
    try simp only [Act.put]
    try simp only [List.setIfInBounds_toArray, List.set_cons_zero, List.set_cons_succ]
    clear hWq_0
    obtain ⟨sf1a, sf1b, sf1c, sf1d, sf1e, sf1f⟩ := pb_0.open3
    obtain ⟨sg1a, sg1b, sg1c, sg1d⟩ := Box.put3 pb_0 (.bool m3) (.slice o3 n3 c3)
    refine reg_call 26 ?_ (by kernel_rfl) ?_ (fun K hK => ?_)
    rotate_left 1
    · simp only [List.getElem?_toArray, List.getElem?_cons_succ, List.getElem?_cons_zero]; exact rfl
    go_simp
    have hB_1 := below_setAll hB_0 (g := gpb) (by omega) [.bool m3, .slice o3 n3 c3, .slice p3 k3 d3]
    have fn_1 := fn_0.setAll pb_0 (noWord3 _ _ _ _ _ _ _) [.bool m3, .slice o3 n3 c3, .slice p3 k3 d3] rfl
    have fd_1 := fd_0.setAll pb_0 (noWord3 _ _ _ _ _ _ _) [.bool m3, .slice o3 n3 c3, .slice p3 k3 d3] rfl
    have pa_1 := pa_0.farAll (g' := gpb) (by omega) [.bool m3, .slice o3 n3 c3, .slice p3 k3 d3]
    have pr_1 := pr_0.farAll (g' := gpb) (by omega) [.bool m3, .slice o3 n3 c3, .slice p3 k3 d3]
    have f1_1 := f1_0.setAll pb_0 (noWord3 _ _ _ _ _ _ _) [.bool m3, .slice o3 n3 c3, .slice p3 k3 d3] rfl
    have f2_1 := f2_0.setAll pb_0 (noWord3 _ _ _ _ _ _ _) [.bool m3, .slice o3 n3 c3, .slice p3 k3 d3] rfl
    have f3_1 := f3_0.setAll pb_0 (noWord3 _ _ _ _ _ _ _) [.bool m3, .slice o3 n3 c3, .slice p3 k3 d3] rfl
    have pb_1 := pb_0.setAll [.bool m3, .slice o3 n3 c3, .slice p3 k3 d3] rfl
    simp only [setAll, Nat.zero_add, Nat.reduceAdd] at hB_1 fn_1 fd_1 pa_1 pr_1 f1_1 f2_1 f3_1 pb_1
    clear sf1a sf1b sf1c sf1d sf1e sf1f sg1a sg1b sg1c sg1d
    clear hB_0 fn_0 fd_0 pa_0 pr_0 f1_0 f2_0 f3_0 pb_0
    refine hK.out _ _ ⟨pa_1.c0, pa_1.c1, pa_1.c2⟩ (fun hHeld => ?_)
    clear hK K
    try simp only [Act.put]
    try simp only [List.setIfInBounds_toArray, List.set_cons_zero, List.set_cons_succ]
    generalize (World.setCell (World.setCell (World.setCell w3 ⟨gpb, 0, none⟩ (.bool m3)) ⟨gpb, 1, none⟩ (.slice o3 n3 c3)) ⟨gpb, 2, none⟩ (.slice p3 k3 d3)) = w4 at *
    refine reg_take 27 ?_ ?_ ?_ (by kernel_rfl) (by kernel_rfl) (by kernel_rfl) (fun _ _ _ h => h) ?_ ?_ (by assumption) ?_
    rotate_left 2
    · simp only [List.getElem?_toArray, List.getElem?_cons_succ, List.getElem?_cons_zero]; exact rfl
    · rfl
    · intro w hSw; (try dsimp only at hSw); go_simp; try with_reducible rfl
    try simp only [Act.put]
    try simp only [List.setIfInBounds_toArray, List.set_cons_zero, List.set_cons_succ]
    refine wpAnyH_done (by kernel_rfl) ?_ _
    refine NoPanic.normal ?_
    obtain ⟨pbe0, pbe1, pbe2, pbe3, pbe4, pbe5⟩ := pb_1.open3
    obtain ⟨pre0, pre1, pre2, pre3, pre4, pre5⟩ := pr_1.open3
    obtain ⟨sf2a, sf2b, sf2c, sf2d, sf2e, sf2f⟩ := pr_1.open3
    obtain ⟨sg2a, sg2b, sg2c, sg2d⟩ := Box.put3 pr_1 (.bool m3) (.slice o3 n3 c3)
    go_wp2
    clear pbe0 pbe1 pbe2 pbe3 pbe4 pbe5 pre0 pre1 pre2 pre3 pre4 pre5 sf2a sf2b sf2c sf2d sf2e sf2f sg2a sg2b sg2c sg2d
    have hB_2 := below_setAll hB_1 (g := w.heap.size + 1) (by omega) [.bool m3, .slice o3 n3 c3, .slice p3 k3 d3]
    have fn_2 := fn_1.setAll pr_1 (noWord3 _ _ _ _ _ _ _) [.bool m3, .slice o3 n3 c3, .slice p3 k3 d3] rfl
    have fd_2 := fd_1.setAll pr_1 (noWord3 _ _ _ _ _ _ _) [.bool m3, .slice o3 n3 c3, .slice p3 k3 d3] rfl
    have pa_2 := pa_1.farAll (g' := w.heap.size + 1) (by omega) [.bool m3, .slice o3 n3 c3, .slice p3 k3 d3]
    have f1_2 := f1_1.setAll pr_1 (noWord3 _ _ _ _ _ _ _) [.bool m3, .slice o3 n3 c3, .slice p3 k3 d3] rfl
    have f2_2 := f2_1.setAll pr_1 (noWord3 _ _ _ _ _ _ _) [.bool m3, .slice o3 n3 c3, .slice p3 k3 d3] rfl
    have f3_2 := f3_1.setAll pr_1 (noWord3 _ _ _ _ _ _ _) [.bool m3, .slice o3 n3 c3, .slice p3 k3 d3] rfl
    have pb_2 := pb_1.farAll (g' := w.heap.size + 1) (by omega) [.bool m3, .slice o3 n3 c3, .slice p3 k3 d3]
    have pr_2 := pr_1.setAll [.bool m3, .slice o3 n3 c3, .slice p3 k3 d3] rfl
    simp only [setAll, Nat.zero_add, Nat.reduceAdd] at hB_2 fn_2 fd_2 pa_2 pr_2 f1_2 f2_2 f3_2 pb_2
    clear hB_1 fn_1 fd_1 pa_1 f1_1 f2_1 f3_1 pb_1 pr_1
    generalize (World.setCell (World.setCell (World.setCell w4 ⟨w.heap.size + 1, 0, none⟩ (.bool m3)) ⟨w.heap.size + 1, 1, none⟩ (.slice o3 n3 c3)) ⟨w.heap.size + 1, 2, none⟩ (.slice p3 k3 d3)) = w5 at *
    go_wp2
    obtain ⟨pre0, pre1, pre2, pre3, pre4, pre5⟩ := pr_2.open3
    exact bodyPost_ret (v := .agg #[.bool m3, .slice o3 n3 c3, .slice p3 k3 d3]) (by simp [results, Try.results51, go_sem, pre0, pre1, pre2]) rfl ⟨_, _, _, _, _, _, _, rfl, f3_2, hB_2⟩
  simp only [HAq.out, Act.put, List.setIfInBounds_toArray, List.set_cons_zero, List.set_cons_succ] at stq_3t
  have stq_3f : ∀ (w' : World) (m1 : Bool) (o1 : Option Addr) (n1 : Nat) (c1 : Nat) (m2 : Bool) (o2 : Option Addr) (n2 : Nat) (c2 : Nat) (m3 : Bool) (o3 : Option Addr) (n3 : Nat) (c3 : Nat) (p3 : Option Addr) (k3 : Nat) (d3 : Nat), Below w.heap.size w w' → Mag w' (.slice uo h ac) 1 X → Mag w' (.slice up j ad) 1 D → Box w' (w.heap.size) [.bool am, .slice ao an ac, .slice ap ak ad] → Box w' (w.heap.size + 1) [.bool false, .slice none 0 0, .slice none 0 0] → Below w2.heap.size w2 w' → RNum w' (.agg #[.bool m1, .slice o1 n1 c1]) (1) (sgn am X) → RNum w' (.agg #[.bool m2, .slice o2 n2 c2]) (1) (sgn false D) → RF w' (.agg #[.bool m3, .slice o3 n3 c3, .slice p3 k3 d3]) (max 1 1) (((sgn am X : Int) : Rat) / ((sgn false D : Int) : Rat)) → WWq 3 #[true, true, true, true, true, true, true, true, true, true, true, true, true, true, true, true, true, true, true, true, true, true, true, true, true, false, false, false] ((((((aq.put (some 18) (.agg #[.bool m1, .slice o1 n1 c1])).put (some 26) (.agg #[.bool m2, .slice o2 n2 c2])).put (some 27) (.tuple #[.agg #[.bool m3, .slice o3 n3 c3, .slice p3 k3 d3], .bool true])).put (some 5) (.tuple #[.agg #[.bool m3, .slice o3 n3 c3, .slice p3 k3 d3], .bool true])).put (some 28) (.agg #[.bool m3, .slice o3 n3 c3, .slice p3 k3 d3])).put (some 29) (.bool true)) w' := by
    intro w6 m1 o1 n1 c1 m2 o2 n2 c2 m3 o3 n3 c3 p3 k3 d3 hB_0 fn_0 fd_0 pa_0 pr_0 hWq_0 f1_0 f2_0 f3_0
    rw [HWq.out, HAq.out]
    try simp only [Act.put]
    try simp only [List.setIfInBounds_toArray, List.set_cons_zero, List.set_cons_succ]
    refine reg_all1 25 ?_ (by kernel_rfl) ?_ (fun K hK => ?_)
    rotate_left 1
    · simp only [List.getElem?_toArray, List.getElem?_cons_succ, List.getElem?_cons_zero]; exact rfl
    · go_simp
      have hgn : w2.heap.size ≤ w6.heap.size := hWq_0.size
      obtain ⟨w7, hww7, pb_0, hb7, -⟩ := new_box w6 _ rfl [.bool false, .slice none 0 0, .slice none 0 0] 31
      rw [hww7]
      have hB_1 := hB_0.trans (hb7.mono hB_0.size)
      have fn_1 := fn_0.below hb7
      have fd_1 := fd_0.below hb7
      have pa_1 := pa_0.below hb7
      have pr_1 := pr_0.below hb7
      have hWq_1 := hWq_0.trans (hb7.mono hWq_0.size)
      have f1_1 := f1_0.below hb7
      have f2_1 := f2_0.below hb7
      have f3_1 := f3_0.below hb7
      clear hb7 hB_0 fn_0 fd_0 pa_0 pr_0 hWq_0 f1_0 f2_0 f3_0
      refine hK.out _ _ ⟨pa_1.c0, pa_1.c1, pa_1.c2⟩ (fun hHeld => ?_)
      clear hK K
      try simp only [Act.put]
      try simp only [List.setIfInBounds_toArray, List.set_cons_zero, List.set_cons_succ]
      rw [← HWq.out]
      exact stq_3t _ m1 o1 n1 c1 m2 o2 n2 c2 m3 o3 n3 c3 p3 k3 d3 w6.heap.size hB_1 fn_1 fd_1 pa_1 pr_1 hWq_1 f1_1 f2_1 f3_1 pb_0 (by omega)
  try simp only [HAq.out, Act.put, List.setIfInBounds_toArray, List.set_cons_zero, List.set_cons_succ] at stq_3f
  have stq_2t : ∀ (w' : World) (m1 : Bool) (o1 : Option Addr) (n1 : Nat) (c1 : Nat) (m2 : Bool) (o2 : Option Addr) (n2 : Nat) (c2 : Nat) (gpb : Nat), Below w.heap.size w w' → Mag w' (.slice uo h ac) 1 X → Mag w' (.slice up j ad) 1 D → Box w' (w.heap.size) [.bool am, .slice ao an ac, .slice ap ak ad] → Box w' (w.heap.size + 1) [.bool false, .slice none 0 0, .slice none 0 0] → Below w2.heap.size w2 w' → RNum w' (.agg #[.bool m1, .slice o1 n1 c1]) (1) (sgn am X) → RNum w' (.agg #[.bool m2, .slice o2 n2 c2]) (1) (sgn false D) → Box w' gpb [.bool false, .slice none 0 0, .slice none 0 0] → w2.heap.size ≤ gpb → WWq 6 #[true, true, true, true, true, true, true, true, true, true, true, true, true, true, true, true, true, true, true, true, true, false, false, false, false, true, false, false] (((aq.put (some 18) (.agg #[.bool m1, .slice o1 n1 c1])).put (some 26) (.agg #[.bool m2, .slice o2 n2 c2])).put (some 3) (.pointer (some ⟨gpb, 0, none⟩))) w' := by
    intro w8 m1 o1 n1 c1 m2 o2 n2 c2 gpb hB_0 fn_0 fd_0 pa_0 pr_0 hWq_0 f1_0 f2_0 pb_0 hgpb
    rw [HWq.out, HAq.out]
    try simp only [Act.put]
    try simp only [List.setIfInBounds_toArray, List.set_cons_zero, List.set_cons_succ]
    refine reg_all1 21 ?_ (by kernel_rfl) ?_ (fun K hK => ?_)
    rotate_left 1
    · simp only [List.getElem?_toArray, List.getElem?_cons_succ, List.getElem?_cons_zero]; exact rfl
    · go_simp
      refine (fMake_some _ _ 1 1 _ _ _ (by omega) (by omega) f1_0.num f2_0.num H0.out).mono ?_
      rintro e w9 ⟨m3, o3, n3, c3, p3, k3, d3, rfl, f3_0, hb9⟩
      have hB_1 := hB_0.trans (hb9.mono hB_0.size)
      have fn_1 := fn_0.below hb9
      have fd_1 := fd_0.below hb9
      have pa_1 := pa_0.below hb9
      have pr_1 := pr_0.below hb9
      have hWq_1 := hWq_0.trans (hb9.mono hWq_0.size)
      have f1_1 := f1_0.below hb9
      have f2_1 := f2_0.below hb9
      have pb_1 := pb_0.below hb9
      clear hb9 hB_0 fn_0 fd_0 pa_0 pr_0 hWq_0 f1_0 f2_0 pb_0
      go_wp2_with fail
      refine hK.out _ _ ⟨pa_1.c0, pa_1.c1, pa_1.c2⟩ (fun hHeld => ?_)
      clear hK K
      try simp only [Act.put]
      try simp only [List.setIfInBounds_toArray, List.set_cons_zero, List.set_cons_succ]
      refine reg_take 22 ?_ ?_ ?_ (by kernel_rfl) (by kernel_rfl) (by kernel_rfl) (fun _ _ _ h => h) ?_ ?_ (by assumption) ?_
      rotate_left 2
      · simp only [List.getElem?_toArray, List.getElem?_cons_succ, List.getElem?_cons_zero]; exact rfl
      · rfl
      · intro w hSw; (try dsimp only at hSw); go_simp; try with_reducible rfl
      try simp only [Act.put]
      try simp only [List.setIfInBounds_toArray, List.set_cons_zero, List.set_cons_succ]
      refine reg_take 23 ?_ ?_ ?_ (by kernel_rfl) (by kernel_rfl) (by kernel_rfl) (fun _ _ _ h => h) ?_ ?_ (by assumption) ?_
      rotate_left 2
      · simp only [List.getElem?_toArray, List.getElem?_cons_succ, List.getElem?_cons_zero]; exact rfl
      · rfl
      · intro w hSw; (try dsimp only at hSw); go_simp; try with_reducible rfl
      try simp only [Act.put]
      try simp only [List.setIfInBounds_toArray, List.set_cons_zero, List.set_cons_succ]
      refine reg_take 24 ?_ ?_ ?_ (by kernel_rfl) (by kernel_rfl) (by kernel_rfl) (fun _ _ _ h => h) ?_ ?_ (by assumption) ?_
      rotate_left 2
      · simp only [List.getElem?_toArray, List.getElem?_cons_succ, List.getElem?_cons_zero]; exact rfl
      · rfl
      · intro w hSw; (try dsimp only at hSw); go_simp; try with_reducible rfl
      try simp only [Act.put]
      try simp only [List.setIfInBounds_toArray, List.set_cons_zero, List.set_cons_succ]
      rw [← HWq.out]
      exact stq_3t _ m1 o1 n1 c1 m2 o2 n2 c2 m3 o3 n3 c3 p3 k3 d3 gpb hB_1 fn_1 fd_1 pa_1 pr_1 hWq_1 f1_1 f2_1 f3_0 pb_1 (by omega)
  try simp only [HAq.out, Act.put, List.setIfInBounds_toArray, List.set_cons_zero, List.set_cons_succ] at stq_2t
  have stq_2f : ∀ (w' : World) (m1 : Bool) (o1 : Option Addr) (n1 : Nat) (c1 : Nat) (m2 : Bool) (o2 : Option Addr) (n2 : Nat) (c2 : Nat), Below w.heap.size w w' → Mag w' (.slice uo h ac) 1 X → Mag w' (.slice up j ad) 1 D → Box w' (w.heap.size) [.bool am, .slice ao an ac, .slice ap ak ad] → Box w' (w.heap.size + 1) [.bool false, .slice none 0 0, .slice none 0 0] → Below w2.heap.size w2 w' → RNum w' (.agg #[.bool m1, .slice o1 n1 c1]) (1) (sgn am X) → RNum w' (.agg #[.bool m2, .slice o2 n2 c2]) (1) (sgn false D) → WWq 7 #[true, true, true, true, true, true, true, true, true, true, true, true, true, true, true, true, true, true, true, true, true, false, false, false, false, false, false, false] ((aq.put (some 18) (.agg #[.bool m1, .slice o1 n1 c1])).put (some 26) (.agg #[.bool m2, .slice o2 n2 c2])) w' := by
    intro w10 m1 o1 n1 c1 m2 o2 n2 c2 hB_0 fn_0 fd_0 pa_0 pr_0 hWq_0 f1_0 f2_0
    rw [HWq.out, HAq.out]
    try simp only [Act.put]
    try simp only [List.setIfInBounds_toArray, List.set_cons_zero, List.set_cons_succ]
    refine reg_all2 21 25 ?_ ?_ (by kernel_rfl) ?_ ?_ (fun K hK => ?_) (fun K hK => ?_)
    rotate_left 2
    · simp only [List.getElem?_toArray, List.getElem?_cons_succ, List.getElem?_cons_zero]; exact rfl
    · simp only [List.getElem?_toArray, List.getElem?_cons_succ, List.getElem?_cons_zero]; exact rfl
    · go_simp
      refine (fMake_some _ _ 1 1 _ _ _ (by omega) (by omega) f1_0.num f2_0.num H0.out).mono ?_
      rintro e w11 ⟨m3, o3, n3, c3, p3, k3, d3, rfl, f3_0, hb11⟩
      have hB_1 := hB_0.trans (hb11.mono hB_0.size)
      have fn_1 := fn_0.below hb11
      have fd_1 := fd_0.below hb11
      have pa_1 := pa_0.below hb11
      have pr_1 := pr_0.below hb11
      have hWq_1 := hWq_0.trans (hb11.mono hWq_0.size)
      have f1_1 := f1_0.below hb11
      have f2_1 := f2_0.below hb11
      clear hb11 hB_0 fn_0 fd_0 pa_0 pr_0 hWq_0 f1_0 f2_0
      go_wp2_with fail
      refine hK.out _ _ ⟨pa_1.c0, pa_1.c1, pa_1.c2⟩ (fun hHeld => ?_)
      clear hK K
      try simp only [Act.put]
      try simp only [List.setIfInBounds_toArray, List.set_cons_zero, List.set_cons_succ]
      refine reg_take 22 ?_ ?_ ?_ (by kernel_rfl) (by kernel_rfl) (by kernel_rfl) (fun _ _ _ h => h) ?_ ?_ (by assumption) ?_
      rotate_left 2
      · simp only [List.getElem?_toArray, List.getElem?_cons_succ, List.getElem?_cons_zero]; exact rfl
      · rfl
      · intro w hSw; (try dsimp only at hSw); go_simp; try with_reducible rfl
      try simp only [Act.put]
      try simp only [List.setIfInBounds_toArray, List.set_cons_zero, List.set_cons_succ]
      refine reg_take 23 ?_ ?_ ?_ (by kernel_rfl) (by kernel_rfl) (by kernel_rfl) (fun _ _ _ h => h) ?_ ?_ (by assumption) ?_
      rotate_left 2
      · simp only [List.getElem?_toArray, List.getElem?_cons_succ, List.getElem?_cons_zero]; exact rfl
      · rfl
      · intro w hSw; (try dsimp only at hSw); go_simp; try with_reducible rfl
      try simp only [Act.put]
      try simp only [List.setIfInBounds_toArray, List.set_cons_zero, List.set_cons_succ]
      refine reg_take 24 ?_ ?_ ?_ (by kernel_rfl) (by kernel_rfl) (by kernel_rfl) (fun _ _ _ h => h) ?_ ?_ (by assumption) ?_
      rotate_left 2
      · simp only [List.getElem?_toArray, List.getElem?_cons_succ, List.getElem?_cons_zero]; exact rfl
      · rfl
      · intro w hSw; (try dsimp only at hSw); go_simp; try with_reducible rfl
      try simp only [Act.put]
      try simp only [List.setIfInBounds_toArray, List.set_cons_zero, List.set_cons_succ]
      rw [← HWq.out]
      exact stq_3f _ m1 o1 n1 c1 m2 o2 n2 c2 m3 o3 n3 c3 p3 k3 d3 hB_1 fn_1 fd_1 pa_1 pr_1 hWq_1 f1_1 f2_1 f3_0
    · go_simp
      have hgn : w2.heap.size ≤ w10.heap.size := hWq_0.size
      obtain ⟨w12, hww12, pb_0, hb12, -⟩ := new_box w10 _ rfl [.bool false, .slice none 0 0, .slice none 0 0] 31
      rw [hww12]
      have hB_1 := hB_0.trans (hb12.mono hB_0.size)
      have fn_1 := fn_0.below hb12
      have fd_1 := fd_0.below hb12
      have pa_1 := pa_0.below hb12
      have pr_1 := pr_0.below hb12
      have hWq_1 := hWq_0.trans (hb12.mono hWq_0.size)
      have f1_1 := f1_0.below hb12
      have f2_1 := f2_0.below hb12
      clear hb12 hB_0 fn_0 fd_0 pa_0 pr_0 hWq_0 f1_0 f2_0
      refine hK.out _ _ ⟨pa_1.c0, pa_1.c1, pa_1.c2⟩ (fun hHeld => ?_)
      clear hK K
      try simp only [Act.put]
      try simp only [List.setIfInBounds_toArray, List.set_cons_zero, List.set_cons_succ]
      rw [← HWq.out]
      exact stq_2t _ m1 o1 n1 c1 m2 o2 n2 c2 w10.heap.size hB_1 fn_1 fd_1 pa_1 pr_1 hWq_1 f1_1 f2_1 pb_0 (by omega)
  try simp only [HAq.out, Act.put, List.setIfInBounds_toArray, List.set_cons_zero, List.set_cons_succ] at stq_2f
  have stq_1t : ∀ (w' : World) (m1 : Bool) (o1 : Option Addr) (n1 : Nat) (c1 : Nat) (gpb : Nat), Below w.heap.size w w' → Mag w' (.slice uo h ac) 1 X → Mag w' (.slice up j ad) 1 D → Box w' (w.heap.size) [.bool am, .slice ao an ac, .slice ap ak ad] → Box w' (w.heap.size + 1) [.bool false, .slice none 0 0, .slice none 0 0] → Below w2.heap.size w2 w' → RNum w' (.agg #[.bool m1, .slice o1 n1 c1]) (1) (sgn am X) → Box w' gpb [.bool false, .slice none 0 0, .slice none 0 0] → w2.heap.size ≤ gpb → WWq 7 #[true, true, true, true, true, true, true, true, true, true, true, true, true, true, true, true, true, true, true, true, false, false, false, false, false, true, false, false] ((aq.put (some 18) (.agg #[.bool m1, .slice o1 n1 c1])).put (some 3) (.pointer (some ⟨gpb, 0, none⟩))) w' := by
    intro w13 m1 o1 n1 c1 gpb hB_0 fn_0 fd_0 pa_0 pr_0 hWq_0 f1_0 pb_0 hgpb
    rw [HWq.out, HAq.out]
    try simp only [Act.put]
    try simp only [List.setIfInBounds_toArray, List.set_cons_zero, List.set_cons_succ]
    refine reg_all1 20 ?_ (by kernel_rfl) ?_ (fun K hK => ?_)
    rotate_left 1
    · simp only [List.getElem?_toArray, List.getElem?_cons_succ, List.getElem?_cons_zero]; exact rfl
    · go_simp
      refine (Make_any false _ 1 D _ (by omega) fd_0).mono ?_
      rintro e w14 ⟨m2, o2, n2, c2, rfl, f2_0, hb14⟩
      have hB_1 := hB_0.trans (hb14.mono hB_0.size)
      have fn_1 := fn_0.below hb14
      have fd_1 := fd_0.below hb14
      have pa_1 := pa_0.below hb14
      have pr_1 := pr_0.below hb14
      have hWq_1 := hWq_0.trans (hb14.mono hWq_0.size)
      have f1_1 := f1_0.below hb14
      have pb_1 := pb_0.below hb14
      clear hb14 hB_0 fn_0 fd_0 pa_0 pr_0 hWq_0 f1_0 pb_0
      go_wp2_with fail
      refine hK.out _ _ ⟨pa_1.c0, pa_1.c1, pa_1.c2⟩ (fun hHeld => ?_)
      clear hK K
      try simp only [Act.put]
      try simp only [List.setIfInBounds_toArray, List.set_cons_zero, List.set_cons_succ]
      rw [← HWq.out]
      exact stq_2t _ m1 o1 n1 c1 m2 o2 n2 c2 gpb hB_1 fn_1 fd_1 pa_1 pr_1 hWq_1 f1_1 f2_0 pb_1 (by omega)
  try simp only [HAq.out, Act.put, List.setIfInBounds_toArray, List.set_cons_zero, List.set_cons_succ] at stq_1t
  have stq_1f : ∀ (w' : World) (m1 : Bool) (o1 : Option Addr) (n1 : Nat) (c1 : Nat), Below w.heap.size w w' → Mag w' (.slice uo h ac) 1 X → Mag w' (.slice up j ad) 1 D → Box w' (w.heap.size) [.bool am, .slice ao an ac, .slice ap ak ad] → Box w' (w.heap.size + 1) [.bool false, .slice none 0 0, .slice none 0 0] → Below w2.heap.size w2 w' → RNum w' (.agg #[.bool m1, .slice o1 n1 c1]) (1) (sgn am X) → WWq 8 #[true, true, true, true, true, true, true, true, true, true, true, true, true, true, true, true, true, true, true, true, false, false, false, false, false, false, false, false] (aq.put (some 18) (.agg #[.bool m1, .slice o1 n1 c1])) w' := by
    intro w15 m1 o1 n1 c1 hB_0 fn_0 fd_0 pa_0 pr_0 hWq_0 f1_0
    rw [HWq.out, HAq.out]
    try simp only [Act.put]
    try simp only [List.setIfInBounds_toArray, List.set_cons_zero, List.set_cons_succ]
    refine reg_all2 20 25 ?_ ?_ (by kernel_rfl) ?_ ?_ (fun K hK => ?_) (fun K hK => ?_)
    rotate_left 2
    · simp only [List.getElem?_toArray, List.getElem?_cons_succ, List.getElem?_cons_zero]; exact rfl
    · simp only [List.getElem?_toArray, List.getElem?_cons_succ, List.getElem?_cons_zero]; exact rfl
    · go_simp
      refine (Make_any false _ 1 D _ (by omega) fd_0).mono ?_
      rintro e w16 ⟨m2, o2, n2, c2, rfl, f2_0, hb16⟩
      have hB_1 := hB_0.trans (hb16.mono hB_0.size)
      have fn_1 := fn_0.below hb16
      have fd_1 := fd_0.below hb16
      have pa_1 := pa_0.below hb16
      have pr_1 := pr_0.below hb16
      have hWq_1 := hWq_0.trans (hb16.mono hWq_0.size)
      have f1_1 := f1_0.below hb16
      clear hb16 hB_0 fn_0 fd_0 pa_0 pr_0 hWq_0 f1_0
      go_wp2_with fail
      refine hK.out _ _ ⟨pa_1.c0, pa_1.c1, pa_1.c2⟩ (fun hHeld => ?_)
      clear hK K
      try simp only [Act.put]
      try simp only [List.setIfInBounds_toArray, List.set_cons_zero, List.set_cons_succ]
      rw [← HWq.out]
      exact stq_2f _ m1 o1 n1 c1 m2 o2 n2 c2 hB_1 fn_1 fd_1 pa_1 pr_1 hWq_1 f1_1 f2_0
    · go_simp
      have hgn : w2.heap.size ≤ w15.heap.size := hWq_0.size
      obtain ⟨w17, hww17, pb_0, hb17, -⟩ := new_box w15 _ rfl [.bool false, .slice none 0 0, .slice none 0 0] 31
      rw [hww17]
      have hB_1 := hB_0.trans (hb17.mono hB_0.size)
      have fn_1 := fn_0.below hb17
      have fd_1 := fd_0.below hb17
      have pa_1 := pa_0.below hb17
      have pr_1 := pr_0.below hb17
      have hWq_1 := hWq_0.trans (hb17.mono hWq_0.size)
      have f1_1 := f1_0.below hb17
      clear hb17 hB_0 fn_0 fd_0 pa_0 pr_0 hWq_0 f1_0
      refine hK.out _ _ ⟨pa_1.c0, pa_1.c1, pa_1.c2⟩ (fun hHeld => ?_)
      clear hK K
      try simp only [Act.put]
      try simp only [List.setIfInBounds_toArray, List.set_cons_zero, List.set_cons_succ]
      rw [← HWq.out]
      exact stq_1t _ m1 o1 n1 c1 w15.heap.size hB_1 fn_1 fd_1 pa_1 pr_1 hWq_1 f1_1 pb_0 (by omega)
  try simp only [HAq.out, Act.put, List.setIfInBounds_toArray, List.set_cons_zero, List.set_cons_succ] at stq_1f
  have stq_0t : ∀ (w' : World) (gpb : Nat), Below w.heap.size w w' → Mag w' (.slice uo h ac) 1 X → Mag w' (.slice up j ad) 1 D → Box w' (w.heap.size) [.bool am, .slice ao an ac, .slice ap ak ad] → Box w' (w.heap.size + 1) [.bool false, .slice none 0 0, .slice none 0 0] → Below w2.heap.size w2 w' → Box w' gpb [.bool false, .slice none 0 0, .slice none 0 0] → w2.heap.size ≤ gpb → WWq 8 #[true, true, true, true, true, true, true, true, true, true, true, true, false, true, true, true, true, true, true, true, false, false, false, false, false, true, false, false] (aq.put (some 3) (.pointer (some ⟨gpb, 0, none⟩))) w' := by
    intro w18 gpb hB_0 fn_0 fd_0 pa_0 pr_0 hWq_0 pb_0 hgpb
    rw [HWq.out, HAq.out]
    try simp only [Act.put]
    try simp only [List.setIfInBounds_toArray, List.set_cons_zero, List.set_cons_succ]
    refine reg_all1 12 ?_ (by kernel_rfl) ?_ (fun K hK => ?_)
    rotate_left 1
    · simp only [List.getElem?_toArray, List.getElem?_cons_succ, List.getElem?_cons_zero]; exact rfl
    · go_simp
      refine (Make_any am _ 1 X _ (by omega) fn_0).mono ?_
      rintro e w19 ⟨m1, o1, n1, c1, rfl, f1_0, hb19⟩
      have hB_1 := hB_0.trans (hb19.mono hB_0.size)
      have fn_1 := fn_0.below hb19
      have fd_1 := fd_0.below hb19
      have pa_1 := pa_0.below hb19
      have pr_1 := pr_0.below hb19
      have hWq_1 := hWq_0.trans (hb19.mono hWq_0.size)
      have pb_1 := pb_0.below hb19
      clear hb19 hB_0 fn_0 fd_0 pa_0 pr_0 hWq_0 pb_0
      go_wp2_with fail
      refine hK.out _ _ ⟨pa_1.c0, pa_1.c1, pa_1.c2⟩ (fun hHeld => ?_)
      clear hK K
      try simp only [Act.put]
      try simp only [List.setIfInBounds_toArray, List.set_cons_zero, List.set_cons_succ]
      rw [← HWq.out]
      exact stq_1t _ m1 o1 n1 c1 gpb hB_1 fn_1 fd_1 pa_1 pr_1 hWq_1 f1_0 pb_1 (by omega)
  try simp only [HAq.out, Act.put, List.setIfInBounds_toArray, List.set_cons_zero, List.set_cons_succ] at stq_0t
  have stq_0f : ∀ (w' : World), Below w.heap.size w w' → Mag w' (.slice uo h ac) 1 X → Mag w' (.slice up j ad) 1 D → Box w' (w.heap.size) [.bool am, .slice ao an ac, .slice ap ak ad] → Box w' (w.heap.size + 1) [.bool false, .slice none 0 0, .slice none 0 0] → Below w2.heap.size w2 w' → WWq 9 #[true, true, true, true, true, true, true, true, true, true, true, true, false, true, true, true, true, true, true, true, false, false, false, false, false, false, false, false] aq w' := by
    intro w20 hB_0 fn_0 fd_0 pa_0 pr_0 hWq_0
    rw [HWq.out, HAq.out]
    try simp only [Act.put]
    try simp only [List.setIfInBounds_toArray, List.set_cons_zero, List.set_cons_succ]
    refine reg_all2 12 25 ?_ ?_ (by kernel_rfl) ?_ ?_ (fun K hK => ?_) (fun K hK => ?_)
    rotate_left 2
    · simp only [List.getElem?_toArray, List.getElem?_cons_succ, List.getElem?_cons_zero]; exact rfl
    · simp only [List.getElem?_toArray, List.getElem?_cons_succ, List.getElem?_cons_zero]; exact rfl
    · go_simp
      refine (Make_any am _ 1 X _ (by omega) fn_0).mono ?_
      rintro e w21 ⟨m1, o1, n1, c1, rfl, f1_0, hb21⟩
      have hB_1 := hB_0.trans (hb21.mono hB_0.size)
      have fn_1 := fn_0.below hb21
      have fd_1 := fd_0.below hb21
      have pa_1 := pa_0.below hb21
      have pr_1 := pr_0.below hb21
      have hWq_1 := hWq_0.trans (hb21.mono hWq_0.size)
      clear hb21 hB_0 fn_0 fd_0 pa_0 pr_0 hWq_0
      go_wp2_with fail
      refine hK.out _ _ ⟨pa_1.c0, pa_1.c1, pa_1.c2⟩ (fun hHeld => ?_)
      clear hK K
      try simp only [Act.put]
      try simp only [List.setIfInBounds_toArray, List.set_cons_zero, List.set_cons_succ]
      rw [← HWq.out]
      exact stq_1f _ m1 o1 n1 c1 hB_1 fn_1 fd_1 pa_1 pr_1 hWq_1 f1_0
    · go_simp
      have hgn : w2.heap.size ≤ w20.heap.size := hWq_0.size
      obtain ⟨w22, hww22, pb_0, hb22, -⟩ := new_box w20 _ rfl [.bool false, .slice none 0 0, .slice none 0 0] 31
      rw [hww22]
      have hB_1 := hB_0.trans (hb22.mono hB_0.size)
      have fn_1 := fn_0.below hb22
      have fd_1 := fd_0.below hb22
      have pa_1 := pa_0.below hb22
      have pr_1 := pr_0.below hb22
      have hWq_1 := hWq_0.trans (hb22.mono hWq_0.size)
      clear hb22 hB_0 fn_0 fd_0 pa_0 pr_0 hWq_0
      refine hK.out _ _ ⟨pa_1.c0, pa_1.c1, pa_1.c2⟩ (fun hHeld => ?_)
      clear hK K
      try simp only [Act.put]
      try simp only [List.setIfInBounds_toArray, List.set_cons_zero, List.set_cons_succ]
      rw [← HWq.out]
      exact stq_0t _ w20.heap.size hB_1 fn_1 fd_1 pa_1 pr_1 hWq_1 pb_0 (by omega)
  exact stq_0f _ hB_3 fn_3 fd_3 pa_2 pr_1 hWq_1
set_option maxHeartbeats 8000000 in
theorem tame1_z (am : Bool) (ao : Option Addr) (an ac : Nat) (ap : Option Addr) (ak ad : Nat) (uo up : Option Addr) (h j X D : Nat) (e1 : ∀ w : World, (Instr.slice 27 (Value.slice ao an ac) none (some (Value.int .i64 (((h) : Nat) : Int))) none).run Try.prog w = Result.ok (Value.slice uo h ac) w) (e2 : ∀ w : World, (Instr.slice 27 (Value.slice ap ak ad) none (some (Value.int .i64 (((j) : Nat) : Int))) none).run Try.prog w = Result.ok (Value.slice up j ad) w) (e3 : ∀ w : World, Sem.run Try.prog (Builtin.min_ #[3, 3] 3 #[.int .i64 ((an : Nat) : Int), .int .i64 1]) w = Result.ok (Value.int .i64 (((h) : Nat) : Int)) w) (e4 : ∀ w : World, Sem.run Try.prog (Builtin.min_ #[3, 3] 3 #[.int .i64 ((ak : Nat) : Int), .int .i64 1]) w = Result.ok (Value.int .i64 (((j) : Nat) : Int)) w) (w : World) (fn_0 : Mag w (.slice uo h ac) 1 X) (fd_0 : Mag w (.slice up j ad) 1 D) (h0 : D = 0) :
    Calls Try.prog 51 #[.agg #[.bool am, .slice ao an ac, .slice ap ak ad]] w fun e w' => AnsF w w' e (1) (0) := by
  have hB_0 := Below.refl w.heap.size w
  obtain ⟨w1, hw1, pa_0, hb1, hs1⟩ := new_box w (w.heap.size) rfl [.bool am, .slice ao an ac, .slice ap ak ad] 31
  have hb1' : Below w.heap.size w w1 := hb1.mono (by omega)
  clear hb1
  have hB_1 := hB_0.trans (hb1'.mono hB_0.size)
  have fn_1 := fn_0.below hb1'
  have fd_1 := fd_0.below hb1'
  clear hb1' hB_0 fn_0 fd_0
  obtain ⟨w2, hw2, pr_0, hb2, hs2⟩ := new_box w1 (w.heap.size + 1) hs1 [.bool false, .slice none 0 0, .slice none 0 0] 31
  have hb2' : Below w1.heap.size w1 w2 := hb2.mono (by omega)
  clear hb2
  have hB_2 := hB_1.trans (hb2'.mono hB_1.size)
  have fn_2 := fn_1.below hb2'
  have fd_2 := fd_1.below hb2'
  have pa_1 := pa_0.below hb2'
  clear hb2' hB_1 fn_1 fd_1 pa_0
  go_enter Try.func51, Try.ntmps51
  obtain ⟨pae0, pae1, pae2, pae3, pae4, pae5⟩ := pa_1.open3
  go_wp2
  clear pae0 pae1 pae2 pae3 pae4 pae5
  have hWq_0 := Below.refl w2.heap.size w2
  have hsq : w.heap.size ≤ w2.heap.size := hB_2.size
  have hlqpa := pa_1.lt
  have hlqpr := pr_0.lt
  have hB_3 := hB_2.drew'
  have fn_3 := fn_2.drew
  have fd_3 := fd_2.drew
  have pa_2 := pa_1.drew
  have pr_1 := pr_0.drew
  have hWq_1 := hWq_0.drew'
  clear hB_2 fn_2 fd_2 pa_1 pr_0 hWq_0
  refine wp_region_noPanic ?_
  refine wp_region_held_drew (S := fun w' => w'.cell? ⟨w.heap.size, 0, none⟩ = some (.bool am) ∧ w'.cell? ⟨w.heap.size, 1, none⟩ = some (.slice ao an ac) ∧ w'.cell? ⟨w.heap.size, 2, none⟩ = some (.slice ap ak ad)) (by kernel_rfl) (⟨pa_2.c0, pa_2.c1, pa_2.c2⟩) (fun hHeld => ?_)
  refine reg_take 0 ?_ ?_ ?_ (by kernel_rfl) (by kernel_rfl) (by kernel_rfl) (fun _ _ _ h => h) ?_ ?_ (by assumption) ?_
  rotate_left 2
  · simp only [List.getElem?_toArray, List.getElem?_cons_zero]; exact rfl
  · rfl
  · intro w hSw; (try dsimp only at hSw); go_simp; try with_reducible rfl
  try simp only [Act.put]
  try simp only [List.setIfInBounds_toArray, List.set_cons_zero, List.set_cons_succ]
  refine reg_take 1 ?_ ?_ ?_ (by kernel_rfl) (by kernel_rfl) (by kernel_rfl) (fun _ _ _ h => h) ?_ ?_ (by assumption) ?_
  rotate_left 2
  · simp only [List.getElem?_toArray, List.getElem?_cons_succ, List.getElem?_cons_zero]; exact rfl
  · rfl
  · intro w hSw; (try dsimp only at hSw); go_simp; try with_reducible rfl
  try simp only [Act.put]
  try simp only [List.setIfInBounds_toArray, List.set_cons_zero, List.set_cons_succ]
  refine reg_take 2 ?_ ?_ ?_ (by kernel_rfl) (by kernel_rfl) (by kernel_rfl) (fun _ _ _ h => h) ?_ ?_ (by assumption) ?_
  rotate_left 2
  · simp only [List.getElem?_toArray, List.getElem?_cons_succ, List.getElem?_cons_zero]; exact rfl
  · rfl
  · intro w hSw; (try dsimp only at hSw); go_simp; try with_reducible rfl
  try simp only [Act.put]
  try simp only [List.setIfInBounds_toArray, List.set_cons_zero, List.set_cons_succ]
  refine reg_take 3 ?_ ?_ ?_ (by kernel_rfl) (by kernel_rfl) (by kernel_rfl) (fun _ _ _ h => h) ?_ ?_ (by assumption) ?_
  rotate_left 2
  · simp only [List.getElem?_toArray, List.getElem?_cons_succ, List.getElem?_cons_zero]; exact rfl
  · rfl
  · intro w hSw; (try dsimp only at hSw); go_simp; try with_reducible rfl
  try simp only [Act.put]
  try simp only [List.setIfInBounds_toArray, List.set_cons_zero, List.set_cons_succ]
  refine reg_take 4 ?_ ?_ ?_ (by kernel_rfl) (by kernel_rfl) (by kernel_rfl) (fun _ _ _ h => h) ?_ ?_ (by assumption) ?_
  rotate_left 2
  · simp only [List.getElem?_toArray, List.getElem?_cons_succ, List.getElem?_cons_zero]; exact rfl
  · rfl
  · intro w hSw; (try dsimp only at hSw); go_simp; try with_reducible rfl
  try simp only [Act.put]
  try simp only [List.setIfInBounds_toArray, List.set_cons_zero, List.set_cons_succ]
  refine reg_take 5 ?_ ?_ ?_ (by kernel_rfl) (by kernel_rfl) (by kernel_rfl) (fun _ _ _ h => h) ?_ ?_ (by assumption) ?_
  rotate_left 2
  · simp only [List.getElem?_toArray, List.getElem?_cons_succ, List.getElem?_cons_zero]; exact rfl
  · rfl
  · intro w hSw; (try dsimp only at hSw); go_simp; try with_reducible rfl
  try simp only [Act.put]
  try simp only [List.setIfInBounds_toArray, List.set_cons_zero, List.set_cons_succ]
  refine reg_take 6 ?_ ?_ ?_ (by kernel_rfl) (by kernel_rfl) (by kernel_rfl) (fun _ _ _ h => h) ?_ ?_ (by assumption) ?_
  rotate_left 2
  · simp only [List.getElem?_toArray, List.getElem?_cons_succ, List.getElem?_cons_zero]; exact rfl
  · rfl
  · intro w hSw; (try dsimp only at hSw); go_simp; try with_reducible rfl
  try simp only [Act.put]
  try simp only [List.setIfInBounds_toArray, List.set_cons_zero, List.set_cons_succ]
  refine reg_take 7 ?_ ?_ ?_ (by kernel_rfl) (by kernel_rfl) (by kernel_rfl) (fun _ _ _ h => h) ?_ ?_ (by assumption) ?_
  rotate_left 2
  · simp only [List.getElem?_toArray, List.getElem?_cons_succ, List.getElem?_cons_zero]; exact rfl
  · rfl
  · intro w hSw; (try dsimp only at hSw); go_simp; try with_reducible rfl
  try simp only [Act.put]
  try simp only [List.setIfInBounds_toArray, List.set_cons_zero, List.set_cons_succ]
  refine reg_take 8 ?_ ?_ ?_ (by kernel_rfl) (by kernel_rfl) (by kernel_rfl) (fun _ _ _ h => h) ?_ ?_ (by assumption) ?_
  rotate_left 2
  · simp only [List.getElem?_toArray, List.getElem?_cons_succ, List.getElem?_cons_zero]; exact rfl
  · rfl
  · intro w hSw; (try dsimp only at hSw); go_simp; try with_reducible rfl
  try simp only [Act.put]
  try simp only [List.setIfInBounds_toArray, List.set_cons_zero, List.set_cons_succ]
  refine reg_take 9 ?_ ?_ ?_ (by kernel_rfl) (by kernel_rfl) (by kernel_rfl) (fun _ _ _ h => h) ?_ ?_ (by assumption) ?_
  rotate_left 2
  · simp only [List.getElem?_toArray, List.getElem?_cons_succ, List.getElem?_cons_zero]; exact rfl
  · rfl
  · intro w hSw; (try dsimp only at hSw); go_simp; try with_reducible rfl
  try simp only [Act.put]
  try simp only [List.setIfInBounds_toArray, List.set_cons_zero, List.set_cons_succ]
  refine reg_take 10 ?_ ?_ ?_ (by kernel_rfl) (by kernel_rfl) (by kernel_rfl) (fun _ _ _ h => h) ?_ ?_ (by assumption) ?_
  rotate_left 2
  · simp only [List.getElem?_toArray, List.getElem?_cons_succ, List.getElem?_cons_zero]; exact rfl
  · rfl
  · intro w hSw; (try dsimp only at hSw); go_simp; try with_reducible rfl
  try simp only [Act.put]
  try simp only [List.setIfInBounds_toArray, List.set_cons_zero, List.set_cons_succ]
  refine reg_take 11 ?_ ?_ ?_ (by kernel_rfl) (by kernel_rfl) (by kernel_rfl) (fun _ _ _ h => h) ?_ ?_ (by assumption) ?_
  rotate_left 2
  · simp only [List.getElem?_toArray, List.getElem?_cons_succ, List.getElem?_cons_zero]; exact rfl
  · rfl
  · intro w hSw; (try dsimp only at hSw); go_simp; try with_reducible rfl
  try simp only [Act.put]
  try simp only [List.setIfInBounds_toArray, List.set_cons_zero, List.set_cons_succ]
  refine reg_take 13 ?_ ?_ ?_ (by kernel_rfl) (by kernel_rfl) (by kernel_rfl) (fun _ _ _ h => h) ?_ ?_ (by assumption) ?_
  rotate_left 2
  · simp only [List.getElem?_toArray, List.getElem?_cons_succ, List.getElem?_cons_zero]; exact rfl
  · rfl
  · intro w hSw; (try dsimp only at hSw); go_simp; try with_reducible rfl
  try simp only [Act.put]
  try simp only [List.setIfInBounds_toArray, List.set_cons_zero, List.set_cons_succ]
  refine reg_take 14 ?_ ?_ ?_ (by kernel_rfl) (by kernel_rfl) (by kernel_rfl) (fun _ _ _ h => h) ?_ ?_ (by assumption) ?_
  rotate_left 2
  · simp only [List.getElem?_toArray, List.getElem?_cons_succ, List.getElem?_cons_zero]; exact rfl
  · rfl
  · intro w hSw; (try dsimp only at hSw); go_simp; try with_reducible rfl
  try simp only [Act.put]
  try simp only [List.setIfInBounds_toArray, List.set_cons_zero, List.set_cons_succ]
  refine reg_take 15 ?_ ?_ ?_ (by kernel_rfl) (by kernel_rfl) (by kernel_rfl) (fun _ _ _ h => h) ?_ ?_ (by assumption) ?_
  rotate_left 2
  · simp only [List.getElem?_toArray, List.getElem?_cons_succ, List.getElem?_cons_zero]; exact rfl
  · rfl
  · intro w hSw; (try dsimp only at hSw); go_simp; try with_reducible rfl
  try simp only [Act.put]
  try simp only [List.setIfInBounds_toArray, List.set_cons_zero, List.set_cons_succ]
  refine reg_take 16 ?_ ?_ ?_ (by kernel_rfl) (by kernel_rfl) (by kernel_rfl) (fun _ _ _ h => h) ?_ ?_ (by assumption) ?_
  rotate_left 2
  · simp only [List.getElem?_toArray, List.getElem?_cons_succ, List.getElem?_cons_zero]; exact rfl
  · rfl
  · intro w hSw; (try dsimp only at hSw); go_simp; try with_reducible rfl
  try simp only [Act.put]
  try simp only [List.setIfInBounds_toArray, List.set_cons_zero, List.set_cons_succ]
  refine reg_take 17 ?_ ?_ ?_ (by kernel_rfl) (by kernel_rfl) (by kernel_rfl) (fun _ _ _ h => h) ?_ ?_ (by assumption) ?_
  rotate_left 2
  · simp only [List.getElem?_toArray, List.getElem?_cons_succ, List.getElem?_cons_zero]; exact rfl
  · rfl
  · intro w hSw; (try dsimp only at hSw); go_simp; try with_reducible rfl
  try simp only [Act.put]
  try simp only [List.setIfInBounds_toArray, List.set_cons_zero, List.set_cons_succ]
  refine reg_take 18 ?_ ?_ ?_ (by kernel_rfl) (by kernel_rfl) (by kernel_rfl) (fun _ _ _ h => h) ?_ ?_ (by assumption) ?_
  rotate_left 2
  · simp only [List.getElem?_toArray, List.getElem?_cons_succ, List.getElem?_cons_zero]; exact rfl
  · rfl
  · intro w hSw; (try dsimp only at hSw); go_simp; try with_reducible rfl
  try simp only [Act.put]
  try simp only [List.setIfInBounds_toArray, List.set_cons_zero, List.set_cons_succ]
  refine reg_take 19 ?_ ?_ ?_ (by kernel_rfl) (by kernel_rfl) (by kernel_rfl) (fun _ _ _ h => h) ?_ ?_ (by assumption) ?_
  rotate_left 2
  · simp only [List.getElem?_toArray, List.getElem?_cons_succ, List.getElem?_cons_zero]; exact rfl
  · rfl
  · intro w hSw; (try dsimp only at hSw); go_simp; try with_reducible rfl
  try simp only [Act.put]
  try simp only [List.setIfInBounds_toArray, List.set_cons_zero, List.set_cons_succ]
  refine reg_grab (fun WWq aq hWW hAA => ?_)
  have HWq := Lib.hid hWW; have HAq := Lib.hid hAA; clear hWW hAA hHeld
  have stq_3t : ∀ (w' : World) (m1 : Bool) (o1 : Option Addr) (n1 : Nat) (c1 : Nat) (m2 : Bool) (o2 : Option Addr) (n2 : Nat) (c2 : Nat) (m3 : Bool) (o3 : Option Addr) (n3 : Nat) (c3 : Nat) (p3 : Option Addr) (k3 : Nat) (d3 : Nat) (gpb : Nat), Below w.heap.size w w' → Mag w' (.slice uo h ac) 1 X → Mag w' (.slice up j ad) 1 D → Box w' (w.heap.size) [.bool am, .slice ao an ac, .slice ap ak ad] → Box w' (w.heap.size + 1) [.bool false, .slice none 0 0, .slice none 0 0] → Below w2.heap.size w2 w' → RNum w' (.agg #[.bool m1, .slice o1 n1 c1]) (1) (sgn am X) → RNum w' (.agg #[.bool m2, .slice o2 n2 c2]) (1) (sgn false D) → RF w' (.agg #[.bool m3, .slice o3 n3 c3, .slice p3 k3 d3]) (1) (0) → Box w' gpb [.bool false, .slice none 0 0, .slice none 0 0] → w2.heap.size ≤ gpb → WWq 2 #[true, true, true, true, true, true, true, true, true, true, true, true, true, true, true, true, true, true, true, true, true, true, true, true, true, true, false, false] (((((((aq.put (some 18) (.agg #[.bool m1, .slice o1 n1 c1])).put (some 26) (.agg #[.bool m2, .slice o2 n2 c2])).put (some 27) (.tuple #[.agg #[.bool m3, .slice o3 n3 c3, .slice p3 k3 d3], .bool false])).put (some 5) (.tuple #[.agg #[.bool m3, .slice o3 n3 c3, .slice p3 k3 d3], .bool false])).put (some 28) (.agg #[.bool m3, .slice o3 n3 c3, .slice p3 k3 d3])).put (some 29) (.bool false)).put (some 3) (.pointer (some ⟨gpb, 0, none⟩))) w' := by
    intro w3 m1 o1 n1 c1 m2 o2 n2 c2 m3 o3 n3 c3 p3 k3 d3 gpb hB_0 fn_0 fd_0 pa_0 pr_0 hWq_0 f1_0 f2_0 f3_0 pb_0 hgpb
    rw [HWq.out, HAq.out]
    try simp only [Act.put]
    try simp only [List.setIfInBounds_toArray, List.set_cons_zero, List.set_cons_succ]
    clear hWq_0
    obtain ⟨sf1a, sf1b, sf1c, sf1d, sf1e, sf1f⟩ := pb_0.open3
    obtain ⟨sg1a, sg1b, sg1c, sg1d⟩ := Box.put3 pb_0 (.bool m3) (.slice o3 n3 c3)
    refine reg_call 26 ?_ (by kernel_rfl) ?_ (fun K hK => ?_)
    rotate_left 1
    · simp only [List.getElem?_toArray, List.getElem?_cons_succ, List.getElem?_cons_zero]; exact rfl
    go_simp
    have hB_1 := below_setAll hB_0 (g := gpb) (by omega) [.bool m3, .slice o3 n3 c3, .slice p3 k3 d3]
    have fn_1 := fn_0.setAll pb_0 (noWord3 _ _ _ _ _ _ _) [.bool m3, .slice o3 n3 c3, .slice p3 k3 d3] rfl
    have fd_1 := fd_0.setAll pb_0 (noWord3 _ _ _ _ _ _ _) [.bool m3, .slice o3 n3 c3, .slice p3 k3 d3] rfl
    have pa_1 := pa_0.farAll (g' := gpb) (by omega) [.bool m3, .slice o3 n3 c3, .slice p3 k3 d3]
    have pr_1 := pr_0.farAll (g' := gpb) (by omega) [.bool m3, .slice o3 n3 c3, .slice p3 k3 d3]
    have f1_1 := f1_0.setAll pb_0 (noWord3 _ _ _ _ _ _ _) [.bool m3, .slice o3 n3 c3, .slice p3 k3 d3] rfl
    have f2_1 := f2_0.setAll pb_0 (noWord3 _ _ _ _ _ _ _) [.bool m3, .slice o3 n3 c3, .slice p3 k3 d3] rfl
    have f3_1 := f3_0.setAll pb_0 (noWord3 _ _ _ _ _ _ _) [.bool m3, .slice o3 n3 c3, .slice p3 k3 d3] rfl
    have pb_1 := pb_0.setAll [.bool m3, .slice o3 n3 c3, .slice p3 k3 d3] rfl
    simp only [setAll, Nat.zero_add, Nat.reduceAdd] at hB_1 fn_1 fd_1 pa_1 pr_1 f1_1 f2_1 f3_1 pb_1
    clear sf1a sf1b sf1c sf1d sf1e sf1f sg1a sg1b sg1c sg1d
    clear hB_0 fn_0 fd_0 pa_0 pr_0 f1_0 f2_0 f3_0 pb_0
    refine hK.out _ _ ⟨pa_1.c0, pa_1.c1, pa_1.c2⟩ (fun hHeld => ?_)
    clear hK K
    try simp only [Act.put]
    try simp only [List.setIfInBounds_toArray, List.set_cons_zero, List.set_cons_succ]
    generalize (World.setCell (World.setCell (World.setCell w3 ⟨gpb, 0, none⟩ (.bool m3)) ⟨gpb, 1, none⟩ (.slice o3 n3 c3)) ⟨gpb, 2, none⟩ (.slice p3 k3 d3)) = w4 at *
    refine reg_take 27 ?_ ?_ ?_ (by kernel_rfl) (by kernel_rfl) (by kernel_rfl) (fun _ _ _ h => h) ?_ ?_ (by assumption) ?_
    rotate_left 2
    · simp only [List.getElem?_toArray, List.getElem?_cons_succ, List.getElem?_cons_zero]; exact rfl
    · rfl
    · intro w hSw; (try dsimp only at hSw); go_simp; try with_reducible rfl
    try simp only [Act.put]
    try simp only [List.setIfInBounds_toArray, List.set_cons_zero, List.set_cons_succ]
    refine wpAnyH_done (by kernel_rfl) ?_ _
    refine NoPanic.normal ?_
    obtain ⟨pbe0, pbe1, pbe2, pbe3, pbe4, pbe5⟩ := pb_1.open3
    obtain ⟨pre0, pre1, pre2, pre3, pre4, pre5⟩ := pr_1.open3
    go_wp2_with fail
    refine (fOf_any 0 (by omega) (by omega) _).mono ?_
    rintro e w5 ⟨m4, o4, n4, c4, p4, k4, d4, rfl, f4_0, hb5⟩
    clear pbe0 pbe1 pbe2 pbe3 pbe4 pbe5 pre0 pre1 pre2 pre3 pre4 pre5
    have hB_2 := hB_1.trans (hb5.mono hB_1.size)
    have fn_2 := fn_1.below hb5
    have fd_2 := fd_1.below hb5
    have pa_2 := pa_1.below hb5
    have pr_2 := pr_1.below hb5
    have f1_2 := f1_1.below hb5
    have f2_2 := f2_1.below hb5
    have f3_2 := f3_1.below hb5
    have pb_2 := pb_1.below hb5
    clear hb5 hB_1 fn_1 fd_1 pa_1 pr_1 f1_1 f2_1 f3_1 pb_1
    obtain ⟨sf2a, sf2b, sf2c, sf2d, sf2e, sf2f⟩ := pr_2.open3
    obtain ⟨sg2a, sg2b, sg2c, sg2d⟩ := Box.put3 pr_2 (.bool m4) (.slice o4 n4 c4)
    go_wp2
    clear sf2a sf2b sf2c sf2d sf2e sf2f sg2a sg2b sg2c sg2d
    have hB_3 := below_setAll hB_2 (g := w.heap.size + 1) (by omega) [.bool m4, .slice o4 n4 c4, .slice p4 k4 d4]
    have fn_3 := fn_2.setAll pr_2 (noWord3 _ _ _ _ _ _ _) [.bool m4, .slice o4 n4 c4, .slice p4 k4 d4] rfl
    have fd_3 := fd_2.setAll pr_2 (noWord3 _ _ _ _ _ _ _) [.bool m4, .slice o4 n4 c4, .slice p4 k4 d4] rfl
    have pa_3 := pa_2.farAll (g' := w.heap.size + 1) (by omega) [.bool m4, .slice o4 n4 c4, .slice p4 k4 d4]
    have f1_3 := f1_2.setAll pr_2 (noWord3 _ _ _ _ _ _ _) [.bool m4, .slice o4 n4 c4, .slice p4 k4 d4] rfl
    have f2_3 := f2_2.setAll pr_2 (noWord3 _ _ _ _ _ _ _) [.bool m4, .slice o4 n4 c4, .slice p4 k4 d4] rfl
    have f3_3 := f3_2.setAll pr_2 (noWord3 _ _ _ _ _ _ _) [.bool m4, .slice o4 n4 c4, .slice p4 k4 d4] rfl
    have pb_3 := pb_2.farAll (g' := w.heap.size + 1) (by omega) [.bool m4, .slice o4 n4 c4, .slice p4 k4 d4]
    have f4_1 := f4_0.setAll pr_2 (noWord3 _ _ _ _ _ _ _) [.bool m4, .slice o4 n4 c4, .slice p4 k4 d4] rfl
    have pr_3 := pr_2.setAll [.bool m4, .slice o4 n4 c4, .slice p4 k4 d4] rfl
    simp only [setAll, Nat.zero_add, Nat.reduceAdd] at hB_3 fn_3 fd_3 pa_3 pr_3 f1_3 f2_3 f3_3 pb_3 f4_1
    clear hB_2 fn_2 fd_2 pa_2 f1_2 f2_2 f3_2 pb_2 f4_0 pr_2
    generalize (World.setCell (World.setCell (World.setCell w5 ⟨w.heap.size + 1, 0, none⟩ (.bool m4)) ⟨w.heap.size + 1, 1, none⟩ (.slice o4 n4 c4)) ⟨w.heap.size + 1, 2, none⟩ (.slice p4 k4 d4)) = w6 at *
    go_wp2
    obtain ⟨pre0, pre1, pre2, pre3, pre4, pre5⟩ := pr_3.open3
    exact bodyPost_ret (v := .agg #[.bool m4, .slice o4 n4 c4, .slice p4 k4 d4]) (by simp [results, Try.results51, go_sem, pre0, pre1, pre2]) rfl ⟨_, _, _, _, _, _, _, rfl, f4_1, hB_3⟩
  simp only [HAq.out, Act.put, List.setIfInBounds_toArray, List.set_cons_zero, List.set_cons_succ] at stq_3t
  have stq_3f : ∀ (w' : World) (m1 : Bool) (o1 : Option Addr) (n1 : Nat) (c1 : Nat) (m2 : Bool) (o2 : Option Addr) (n2 : Nat) (c2 : Nat) (m3 : Bool) (o3 : Option Addr) (n3 : Nat) (c3 : Nat) (p3 : Option Addr) (k3 : Nat) (d3 : Nat), Below w.heap.size w w' → Mag w' (.slice uo h ac) 1 X → Mag w' (.slice up j ad) 1 D → Box w' (w.heap.size) [.bool am, .slice ao an ac, .slice ap ak ad] → Box w' (w.heap.size + 1) [.bool false, .slice none 0 0, .slice none 0 0] → Below w2.heap.size w2 w' → RNum w' (.agg #[.bool m1, .slice o1 n1 c1]) (1) (sgn am X) → RNum w' (.agg #[.bool m2, .slice o2 n2 c2]) (1) (sgn false D) → RF w' (.agg #[.bool m3, .slice o3 n3 c3, .slice p3 k3 d3]) (1) (0) → WWq 3 #[true, true, true, true, true, true, true, true, true, true, true, true, true, true, true, true, true, true, true, true, true, true, true, true, true, false, false, false] ((((((aq.put (some 18) (.agg #[.bool m1, .slice o1 n1 c1])).put (some 26) (.agg #[.bool m2, .slice o2 n2 c2])).put (some 27) (.tuple #[.agg #[.bool m3, .slice o3 n3 c3, .slice p3 k3 d3], .bool false])).put (some 5) (.tuple #[.agg #[.bool m3, .slice o3 n3 c3, .slice p3 k3 d3], .bool false])).put (some 28) (.agg #[.bool m3, .slice o3 n3 c3, .slice p3 k3 d3])).put (some 29) (.bool false)) w' := by
    intro w7 m1 o1 n1 c1 m2 o2 n2 c2 m3 o3 n3 c3 p3 k3 d3 hB_0 fn_0 fd_0 pa_0 pr_0 hWq_0 f1_0 f2_0 f3_0
    rw [HWq.out, HAq.out]
    try simp only [Act.put]
    try simp only [List.setIfInBounds_toArray, List.set_cons_zero, List.set_cons_succ]
    refine reg_all1 25 ?_ (by kernel_rfl) ?_ (fun K hK => ?_)
    rotate_left 1
    · simp only [List.getElem?_toArray, List.getElem?_cons_succ, List.getElem?_cons_zero]; exact rfl
    · go_simp
      have hgn : w2.heap.size ≤ w7.heap.size := hWq_0.size
      obtain ⟨w8, hww8, pb_0, hb8, -⟩ := new_box w7 _ rfl [.bool false, .slice none 0 0, .slice none 0 0] 31
      rw [hww8]
      have hB_1 := hB_0.trans (hb8.mono hB_0.size)
      have fn_1 := fn_0.below hb8
      have fd_1 := fd_0.below hb8
      have pa_1 := pa_0.below hb8
      have pr_1 := pr_0.below hb8
      have hWq_1 := hWq_0.trans (hb8.mono hWq_0.size)
      have f1_1 := f1_0.below hb8
      have f2_1 := f2_0.below hb8
      have f3_1 := f3_0.below hb8
      clear hb8 hB_0 fn_0 fd_0 pa_0 pr_0 hWq_0 f1_0 f2_0 f3_0
      refine hK.out _ _ ⟨pa_1.c0, pa_1.c1, pa_1.c2⟩ (fun hHeld => ?_)
      clear hK K
      try simp only [Act.put]
      try simp only [List.setIfInBounds_toArray, List.set_cons_zero, List.set_cons_succ]
      rw [← HWq.out]
      exact stq_3t _ m1 o1 n1 c1 m2 o2 n2 c2 m3 o3 n3 c3 p3 k3 d3 w7.heap.size hB_1 fn_1 fd_1 pa_1 pr_1 hWq_1 f1_1 f2_1 f3_1 pb_0 (by omega)
  try simp only [HAq.out, Act.put, List.setIfInBounds_toArray, List.set_cons_zero, List.set_cons_succ] at stq_3f
  have stq_2t : ∀ (w' : World) (m1 : Bool) (o1 : Option Addr) (n1 : Nat) (c1 : Nat) (m2 : Bool) (o2 : Option Addr) (n2 : Nat) (c2 : Nat) (gpb : Nat), Below w.heap.size w w' → Mag w' (.slice uo h ac) 1 X → Mag w' (.slice up j ad) 1 D → Box w' (w.heap.size) [.bool am, .slice ao an ac, .slice ap ak ad] → Box w' (w.heap.size + 1) [.bool false, .slice none 0 0, .slice none 0 0] → Below w2.heap.size w2 w' → RNum w' (.agg #[.bool m1, .slice o1 n1 c1]) (1) (sgn am X) → RNum w' (.agg #[.bool m2, .slice o2 n2 c2]) (1) (sgn false D) → Box w' gpb [.bool false, .slice none 0 0, .slice none 0 0] → w2.heap.size ≤ gpb → WWq 6 #[true, true, true, true, true, true, true, true, true, true, true, true, true, true, true, true, true, true, true, true, true, false, false, false, false, true, false, false] (((aq.put (some 18) (.agg #[.bool m1, .slice o1 n1 c1])).put (some 26) (.agg #[.bool m2, .slice o2 n2 c2])).put (some 3) (.pointer (some ⟨gpb, 0, none⟩))) w' := by
    intro w9 m1 o1 n1 c1 m2 o2 n2 c2 gpb hB_0 fn_0 fd_0 pa_0 pr_0 hWq_0 f1_0 f2_0 pb_0 hgpb
    rw [HWq.out, HAq.out]
    try simp only [Act.put]
    try simp only [List.setIfInBounds_toArray, List.set_cons_zero, List.set_cons_succ]
    refine reg_all1 21 ?_ (by kernel_rfl) ?_ (fun K hK => ?_)
    rotate_left 1
    · simp only [List.getElem?_toArray, List.getElem?_cons_succ, List.getElem?_cons_zero]; exact rfl
    · go_simp
      refine (fMake_zero _ _ 1 1 _ _ _ (by omega) (by omega) f1_0.num f2_0.num (by subst h0; rfl)).mono ?_
      rintro e w10 ⟨m3, o3, n3, c3, p3, k3, d3, rfl, f3_0, hb10⟩
      have hB_1 := hB_0.trans (hb10.mono hB_0.size)
      have fn_1 := fn_0.below hb10
      have fd_1 := fd_0.below hb10
      have pa_1 := pa_0.below hb10
      have pr_1 := pr_0.below hb10
      have hWq_1 := hWq_0.trans (hb10.mono hWq_0.size)
      have f1_1 := f1_0.below hb10
      have f2_1 := f2_0.below hb10
      have pb_1 := pb_0.below hb10
      clear hb10 hB_0 fn_0 fd_0 pa_0 pr_0 hWq_0 f1_0 f2_0 pb_0
      go_wp2_with fail
      refine hK.out _ _ ⟨pa_1.c0, pa_1.c1, pa_1.c2⟩ (fun hHeld => ?_)
      clear hK K
      try simp only [Act.put]
      try simp only [List.setIfInBounds_toArray, List.set_cons_zero, List.set_cons_succ]
      refine reg_take 22 ?_ ?_ ?_ (by kernel_rfl) (by kernel_rfl) (by kernel_rfl) (fun _ _ _ h => h) ?_ ?_ (by assumption) ?_
      rotate_left 2
      · simp only [List.getElem?_toArray, List.getElem?_cons_succ, List.getElem?_cons_zero]; exact rfl
      · rfl
      · intro w hSw; (try dsimp only at hSw); go_simp; try with_reducible rfl
      try simp only [Act.put]
      try simp only [List.setIfInBounds_toArray, List.set_cons_zero, List.set_cons_succ]
      refine reg_take 23 ?_ ?_ ?_ (by kernel_rfl) (by kernel_rfl) (by kernel_rfl) (fun _ _ _ h => h) ?_ ?_ (by assumption) ?_
      rotate_left 2
      · simp only [List.getElem?_toArray, List.getElem?_cons_succ, List.getElem?_cons_zero]; exact rfl
      · rfl
      · intro w hSw; (try dsimp only at hSw); go_simp; try with_reducible rfl
      try simp only [Act.put]
      try simp only [List.setIfInBounds_toArray, List.set_cons_zero, List.set_cons_succ]
      refine reg_take 24 ?_ ?_ ?_ (by kernel_rfl) (by kernel_rfl) (by kernel_rfl) (fun _ _ _ h => h) ?_ ?_ (by assumption) ?_
      rotate_left 2
      · simp only [List.getElem?_toArray, List.getElem?_cons_succ, List.getElem?_cons_zero]; exact rfl
      · rfl
      · intro w hSw; (try dsimp only at hSw); go_simp; try with_reducible rfl
      try simp only [Act.put]
      try simp only [List.setIfInBounds_toArray, List.set_cons_zero, List.set_cons_succ]
      rw [← HWq.out]
      exact stq_3t _ m1 o1 n1 c1 m2 o2 n2 c2 m3 o3 n3 c3 p3 k3 d3 gpb hB_1 fn_1 fd_1 pa_1 pr_1 hWq_1 f1_1 f2_1 f3_0 pb_1 (by omega)
  try simp only [HAq.out, Act.put, List.setIfInBounds_toArray, List.set_cons_zero, List.set_cons_succ] at stq_2t
  have stq_2f : ∀ (w' : World) (m1 : Bool) (o1 : Option Addr) (n1 : Nat) (c1 : Nat) (m2 : Bool) (o2 : Option Addr) (n2 : Nat) (c2 : Nat), Below w.heap.size w w' → Mag w' (.slice uo h ac) 1 X → Mag w' (.slice up j ad) 1 D → Box w' (w.heap.size) [.bool am, .slice ao an ac, .slice ap ak ad] → Box w' (w.heap.size + 1) [.bool false, .slice none 0 0, .slice none 0 0] → Below w2.heap.size w2 w' → RNum w' (.agg #[.bool m1, .slice o1 n1 c1]) (1) (sgn am X) → RNum w' (.agg #[.bool m2, .slice o2 n2 c2]) (1) (sgn false D) → WWq 7 #[true, true, true, true, true, true, true, true, true, true, true, true, true, true, true, true, true, true, true, true, true, false, false, false, false, false, false, false] ((aq.put (some 18) (.agg #[.bool m1, .slice o1 n1 c1])).put (some 26) (.agg #[.bool m2, .slice o2 n2 c2])) w' := by
    intro w11 m1 o1 n1 c1 m2 o2 n2 c2 hB_0 fn_0 fd_0 pa_0 pr_0 hWq_0 f1_0 f2_0
    rw [HWq.out, HAq.out]
    try simp only [Act.put]
    try simp only [List.setIfInBounds_toArray, List.set_cons_zero, List.set_cons_succ]
    refine reg_all2 21 25 ?_ ?_ (by kernel_rfl) ?_ ?_ (fun K hK => ?_) (fun K hK => ?_)
    rotate_left 2
    · simp only [List.getElem?_toArray, List.getElem?_cons_succ, List.getElem?_cons_zero]; exact rfl
    · simp only [List.getElem?_toArray, List.getElem?_cons_succ, List.getElem?_cons_zero]; exact rfl
    · go_simp
      refine (fMake_zero _ _ 1 1 _ _ _ (by omega) (by omega) f1_0.num f2_0.num (by subst h0; rfl)).mono ?_
      rintro e w12 ⟨m3, o3, n3, c3, p3, k3, d3, rfl, f3_0, hb12⟩
      have hB_1 := hB_0.trans (hb12.mono hB_0.size)
      have fn_1 := fn_0.below hb12
      have fd_1 := fd_0.below hb12
      have pa_1 := pa_0.below hb12
      have pr_1 := pr_0.below hb12
      have hWq_1 := hWq_0.trans (hb12.mono hWq_0.size)
      have f1_1 := f1_0.below hb12
      have f2_1 := f2_0.below hb12
      clear hb12 hB_0 fn_0 fd_0 pa_0 pr_0 hWq_0 f1_0 f2_0
      go_wp2_with fail
      refine hK.out _ _ ⟨pa_1.c0, pa_1.c1, pa_1.c2⟩ (fun hHeld => ?_)
      clear hK K
      try simp only [Act.put]
      try simp only [List.setIfInBounds_toArray, List.set_cons_zero, List.set_cons_succ]
      refine reg_take 22 ?_ ?_ ?_ (by kernel_rfl) (by kernel_rfl) (by kernel_rfl) (fun _ _ _ h => h) ?_ ?_ (by assumption) ?_
      rotate_left 2
      · simp only [List.getElem?_toArray, List.getElem?_cons_succ, List.getElem?_cons_zero]; exact rfl
      · rfl
      · intro w hSw; (try dsimp only at hSw); go_simp; try with_reducible rfl
      try simp only [Act.put]
      try simp only [List.setIfInBounds_toArray, List.set_cons_zero, List.set_cons_succ]
      refine reg_take 23 ?_ ?_ ?_ (by kernel_rfl) (by kernel_rfl) (by kernel_rfl) (fun _ _ _ h => h) ?_ ?_ (by assumption) ?_
      rotate_left 2
      · simp only [List.getElem?_toArray, List.getElem?_cons_succ, List.getElem?_cons_zero]; exact rfl
      · rfl
      · intro w hSw; (try dsimp only at hSw); go_simp; try with_reducible rfl
      try simp only [Act.put]
      try simp only [List.setIfInBounds_toArray, List.set_cons_zero, List.set_cons_succ]
      refine reg_take 24 ?_ ?_ ?_ (by kernel_rfl) (by kernel_rfl) (by kernel_rfl) (fun _ _ _ h => h) ?_ ?_ (by assumption) ?_
      rotate_left 2
      · simp only [List.getElem?_toArray, List.getElem?_cons_succ, List.getElem?_cons_zero]; exact rfl
      · rfl
      · intro w hSw; (try dsimp only at hSw); go_simp; try with_reducible rfl
      try simp only [Act.put]
      try simp only [List.setIfInBounds_toArray, List.set_cons_zero, List.set_cons_succ]
      rw [← HWq.out]
      exact stq_3f _ m1 o1 n1 c1 m2 o2 n2 c2 m3 o3 n3 c3 p3 k3 d3 hB_1 fn_1 fd_1 pa_1 pr_1 hWq_1 f1_1 f2_1 f3_0
    · go_simp
      have hgn : w2.heap.size ≤ w11.heap.size := hWq_0.size
      obtain ⟨w13, hww13, pb_0, hb13, -⟩ := new_box w11 _ rfl [.bool false, .slice none 0 0, .slice none 0 0] 31
      rw [hww13]
      have hB_1 := hB_0.trans (hb13.mono hB_0.size)
      have fn_1 := fn_0.below hb13
      have fd_1 := fd_0.below hb13
      have pa_1 := pa_0.below hb13
      have pr_1 := pr_0.below hb13
      have hWq_1 := hWq_0.trans (hb13.mono hWq_0.size)
      have f1_1 := f1_0.below hb13
      have f2_1 := f2_0.below hb13
      clear hb13 hB_0 fn_0 fd_0 pa_0 pr_0 hWq_0 f1_0 f2_0
      refine hK.out _ _ ⟨pa_1.c0, pa_1.c1, pa_1.c2⟩ (fun hHeld => ?_)
      clear hK K
      try simp only [Act.put]
      try simp only [List.setIfInBounds_toArray, List.set_cons_zero, List.set_cons_succ]
      rw [← HWq.out]
      exact stq_2t _ m1 o1 n1 c1 m2 o2 n2 c2 w11.heap.size hB_1 fn_1 fd_1 pa_1 pr_1 hWq_1 f1_1 f2_1 pb_0 (by omega)
  try simp only [HAq.out, Act.put, List.setIfInBounds_toArray, List.set_cons_zero, List.set_cons_succ] at stq_2f
  have stq_1t : ∀ (w' : World) (m1 : Bool) (o1 : Option Addr) (n1 : Nat) (c1 : Nat) (gpb : Nat), Below w.heap.size w w' → Mag w' (.slice uo h ac) 1 X → Mag w' (.slice up j ad) 1 D → Box w' (w.heap.size) [.bool am, .slice ao an ac, .slice ap ak ad] → Box w' (w.heap.size + 1) [.bool false, .slice none 0 0, .slice none 0 0] → Below w2.heap.size w2 w' → RNum w' (.agg #[.bool m1, .slice o1 n1 c1]) (1) (sgn am X) → Box w' gpb [.bool false, .slice none 0 0, .slice none 0 0] → w2.heap.size ≤ gpb → WWq 7 #[true, true, true, true, true, true, true, true, true, true, true, true, true, true, true, true, true, true, true, true, false, false, false, false, false, true, false, false] ((aq.put (some 18) (.agg #[.bool m1, .slice o1 n1 c1])).put (some 3) (.pointer (some ⟨gpb, 0, none⟩))) w' := by
    intro w14 m1 o1 n1 c1 gpb hB_0 fn_0 fd_0 pa_0 pr_0 hWq_0 f1_0 pb_0 hgpb
    rw [HWq.out, HAq.out]
    try simp only [Act.put]
    try simp only [List.setIfInBounds_toArray, List.set_cons_zero, List.set_cons_succ]
    refine reg_all1 20 ?_ (by kernel_rfl) ?_ (fun K hK => ?_)
    rotate_left 1
    · simp only [List.getElem?_toArray, List.getElem?_cons_succ, List.getElem?_cons_zero]; exact rfl
    · go_simp
      refine (Make_any false _ 1 D _ (by omega) fd_0).mono ?_
      rintro e w15 ⟨m2, o2, n2, c2, rfl, f2_0, hb15⟩
      have hB_1 := hB_0.trans (hb15.mono hB_0.size)
      have fn_1 := fn_0.below hb15
      have fd_1 := fd_0.below hb15
      have pa_1 := pa_0.below hb15
      have pr_1 := pr_0.below hb15
      have hWq_1 := hWq_0.trans (hb15.mono hWq_0.size)
      have f1_1 := f1_0.below hb15
      have pb_1 := pb_0.below hb15
      clear hb15 hB_0 fn_0 fd_0 pa_0 pr_0 hWq_0 f1_0 pb_0
      go_wp2_with fail
      refine hK.out _ _ ⟨pa_1.c0, pa_1.c1, pa_1.c2⟩ (fun hHeld => ?_)
      clear hK K
      try simp only [Act.put]
      try simp only [List.setIfInBounds_toArray, List.set_cons_zero, List.set_cons_succ]
      rw [← HWq.out]
      exact stq_2t _ m1 o1 n1 c1 m2 o2 n2 c2 gpb hB_1 fn_1 fd_1 pa_1 pr_1 hWq_1 f1_1 f2_0 pb_1 (by omega)
  try simp only [HAq.out, Act.put, List.setIfInBounds_toArray, List.set_cons_zero, List.set_cons_succ] at stq_1t
  have stq_1f : ∀ (w' : World) (m1 : Bool) (o1 : Option Addr) (n1 : Nat) (c1 : Nat), Below w.heap.size w w' → Mag w' (.slice uo h ac) 1 X → Mag w' (.slice up j ad) 1 D → Box w' (w.heap.size) [.bool am, .slice ao an ac, .slice ap ak ad] → Box w' (w.heap.size + 1) [.bool false, .slice none 0 0, .slice none 0 0] → Below w2.heap.size w2 w' → RNum w' (.agg #[.bool m1, .slice o1 n1 c1]) (1) (sgn am X) → WWq 8 #[true, true, true, true, true, true, true, true, true, true, true, true, true, true, true, true, true, true, true, true, false, false, false, false, false, false, false, false] (aq.put (some 18) (.agg #[.bool m1, .slice o1 n1 c1])) w' := by
    intro w16 m1 o1 n1 c1 hB_0 fn_0 fd_0 pa_0 pr_0 hWq_0 f1_0
    rw [HWq.out, HAq.out]
    try simp only [Act.put]
    try simp only [List.setIfInBounds_toArray, List.set_cons_zero, List.set_cons_succ]
    refine reg_all2 20 25 ?_ ?_ (by kernel_rfl) ?_ ?_ (fun K hK => ?_) (fun K hK => ?_)
    rotate_left 2
    · simp only [List.getElem?_toArray, List.getElem?_cons_succ, List.getElem?_cons_zero]; exact rfl
    · simp only [List.getElem?_toArray, List.getElem?_cons_succ, List.getElem?_cons_zero]; exact rfl
    · go_simp
      refine (Make_any false _ 1 D _ (by omega) fd_0).mono ?_
      rintro e w17 ⟨m2, o2, n2, c2, rfl, f2_0, hb17⟩
      have hB_1 := hB_0.trans (hb17.mono hB_0.size)
      have fn_1 := fn_0.below hb17
      have fd_1 := fd_0.below hb17
      have pa_1 := pa_0.below hb17
      have pr_1 := pr_0.below hb17
      have hWq_1 := hWq_0.trans (hb17.mono hWq_0.size)
      have f1_1 := f1_0.below hb17
      clear hb17 hB_0 fn_0 fd_0 pa_0 pr_0 hWq_0 f1_0
      go_wp2_with fail
      refine hK.out _ _ ⟨pa_1.c0, pa_1.c1, pa_1.c2⟩ (fun hHeld => ?_)
      clear hK K
      try simp only [Act.put]
      try simp only [List.setIfInBounds_toArray, List.set_cons_zero, List.set_cons_succ]
      rw [← HWq.out]
      exact stq_2f _ m1 o1 n1 c1 m2 o2 n2 c2 hB_1 fn_1 fd_1 pa_1 pr_1 hWq_1 f1_1 f2_0
    · go_simp
      have hgn : w2.heap.size ≤ w16.heap.size := hWq_0.size
      obtain ⟨w18, hww18, pb_0, hb18, -⟩ := new_box w16 _ rfl [.bool false, .slice none 0 0, .slice none 0 0] 31
      rw [hww18]
      have hB_1 := hB_0.trans (hb18.mono hB_0.size)
      have fn_1 := fn_0.below hb18
      have fd_1 := fd_0.below hb18
      have pa_1 := pa_0.below hb18
      have pr_1 := pr_0.below hb18
      have hWq_1 := hWq_0.trans (hb18.mono hWq_0.size)
      have f1_1 := f1_0.below hb18
      clear hb18 hB_0 fn_0 fd_0 pa_0 pr_0 hWq_0 f1_0
      refine hK.out _ _ ⟨pa_1.c0, pa_1.c1, pa_1.c2⟩ (fun hHeld => ?_)
      clear hK K
      try simp only [Act.put]
      try simp only [List.setIfInBounds_toArray, List.set_cons_zero, List.set_cons_succ]
      rw [← HWq.out]
      exact stq_1t _ m1 o1 n1 c1 w16.heap.size hB_1 fn_1 fd_1 pa_1 pr_1 hWq_1 f1_1 pb_0 (by omega)
  try simp only [HAq.out, Act.put, List.setIfInBounds_toArray, List.set_cons_zero, List.set_cons_succ] at stq_1f
  have stq_0t : ∀ (w' : World) (gpb : Nat), Below w.heap.size w w' → Mag w' (.slice uo h ac) 1 X → Mag w' (.slice up j ad) 1 D → Box w' (w.heap.size) [.bool am, .slice ao an ac, .slice ap ak ad] → Box w' (w.heap.size + 1) [.bool false, .slice none 0 0, .slice none 0 0] → Below w2.heap.size w2 w' → Box w' gpb [.bool false, .slice none 0 0, .slice none 0 0] → w2.heap.size ≤ gpb → WWq 8 #[true, true, true, true, true, true, true, true, true, true, true, true, false, true, true, true, true, true, true, true, false, false, false, false, false, true, false, false] (aq.put (some 3) (.pointer (some ⟨gpb, 0, none⟩))) w' := by
    intro w19 gpb hB_0 fn_0 fd_0 pa_0 pr_0 hWq_0 pb_0 hgpb
    rw [HWq.out, HAq.out]
    try simp only [Act.put]
    try simp only [List.setIfInBounds_toArray, List.set_cons_zero, List.set_cons_succ]
    refine reg_all1 12 ?_ (by kernel_rfl) ?_ (fun K hK => ?_)
    rotate_left 1
    · simp only [List.getElem?_toArray, List.getElem?_cons_succ, List.getElem?_cons_zero]; exact rfl
    · go_simp
      refine (Make_any am _ 1 X _ (by omega) fn_0).mono ?_
      rintro e w20 ⟨m1, o1, n1, c1, rfl, f1_0, hb20⟩
      have hB_1 := hB_0.trans (hb20.mono hB_0.size)
      have fn_1 := fn_0.below hb20
      have fd_1 := fd_0.below hb20
      have pa_1 := pa_0.below hb20
      have pr_1 := pr_0.below hb20
      have hWq_1 := hWq_0.trans (hb20.mono hWq_0.size)
      have pb_1 := pb_0.below hb20
      clear hb20 hB_0 fn_0 fd_0 pa_0 pr_0 hWq_0 pb_0
      go_wp2_with fail
      refine hK.out _ _ ⟨pa_1.c0, pa_1.c1, pa_1.c2⟩ (fun hHeld => ?_)
      clear hK K
      try simp only [Act.put]
      try simp only [List.setIfInBounds_toArray, List.set_cons_zero, List.set_cons_succ]
      rw [← HWq.out]
      exact stq_1t _ m1 o1 n1 c1 gpb hB_1 fn_1 fd_1 pa_1 pr_1 hWq_1 f1_0 pb_1 (by omega)
  try simp only [HAq.out, Act.put, List.setIfInBounds_toArray, List.set_cons_zero, List.set_cons_succ] at stq_0t
  have stq_0f : ∀ (w' : World), Below w.heap.size w w' → Mag w' (.slice uo h ac) 1 X → Mag w' (.slice up j ad) 1 D → Box w' (w.heap.size) [.bool am, .slice ao an ac, .slice ap ak ad] → Box w' (w.heap.size + 1) [.bool false, .slice none 0 0, .slice none 0 0] → Below w2.heap.size w2 w' → WWq 9 #[true, true, true, true, true, true, true, true, true, true, true, true, false, true, true, true, true, true, true, true, false, false, false, false, false, false, false, false] aq w' := by
    intro w21 hB_0 fn_0 fd_0 pa_0 pr_0 hWq_0
    rw [HWq.out, HAq.out]
    try simp only [Act.put]
    try simp only [List.setIfInBounds_toArray, List.set_cons_zero, List.set_cons_succ]
    refine reg_all2 12 25 ?_ ?_ (by kernel_rfl) ?_ ?_ (fun K hK => ?_) (fun K hK => ?_)
    rotate_left 2
    · simp only [List.getElem?_toArray, List.getElem?_cons_succ, List.getElem?_cons_zero]; exact rfl
    · simp only [List.getElem?_toArray, List.getElem?_cons_succ, List.getElem?_cons_zero]; exact rfl
    · go_simp
      refine (Make_any am _ 1 X _ (by omega) fn_0).mono ?_
      rintro e w22 ⟨m1, o1, n1, c1, rfl, f1_0, hb22⟩
      have hB_1 := hB_0.trans (hb22.mono hB_0.size)
      have fn_1 := fn_0.below hb22
      have fd_1 := fd_0.below hb22
      have pa_1 := pa_0.below hb22
      have pr_1 := pr_0.below hb22
      have hWq_1 := hWq_0.trans (hb22.mono hWq_0.size)
      clear hb22 hB_0 fn_0 fd_0 pa_0 pr_0 hWq_0
      go_wp2_with fail
      refine hK.out _ _ ⟨pa_1.c0, pa_1.c1, pa_1.c2⟩ (fun hHeld => ?_)
      clear hK K
      try simp only [Act.put]
      try simp only [List.setIfInBounds_toArray, List.set_cons_zero, List.set_cons_succ]
      rw [← HWq.out]
      exact stq_1f _ m1 o1 n1 c1 hB_1 fn_1 fd_1 pa_1 pr_1 hWq_1 f1_0
    · go_simp
      have hgn : w2.heap.size ≤ w21.heap.size := hWq_0.size
      obtain ⟨w23, hww23, pb_0, hb23, -⟩ := new_box w21 _ rfl [.bool false, .slice none 0 0, .slice none 0 0] 31
      rw [hww23]
      have hB_1 := hB_0.trans (hb23.mono hB_0.size)
      have fn_1 := fn_0.below hb23
      have fd_1 := fd_0.below hb23
      have pa_1 := pa_0.below hb23
      have pr_1 := pr_0.below hb23
      have hWq_1 := hWq_0.trans (hb23.mono hWq_0.size)
      clear hb23 hB_0 fn_0 fd_0 pa_0 pr_0 hWq_0
      refine hK.out _ _ ⟨pa_1.c0, pa_1.c1, pa_1.c2⟩ (fun hHeld => ?_)
      clear hK K
      try simp only [Act.put]
      try simp only [List.setIfInBounds_toArray, List.set_cons_zero, List.set_cons_succ]
      rw [← HWq.out]
      exact stq_0t _ w21.heap.size hB_1 fn_1 fd_1 pa_1 pr_1 hWq_1 pb_0 (by omega)
  exact stq_0f _ hB_3 fn_3 fd_3 pa_2 pr_1 hWq_1
end Go.Proofs.Ytkcfaddilknelaa
/- The calls of spot: Side, within, Same, On. -/
namespace Go.Proofs.Ytkcfaddilknelaa
open Go.RowKit Go.MagM
set_option maxHeartbeats 8000000 in
theorem sSide_any {axm : Bool} {axo : Option Addr} {axn axc : Nat} {axp : Option Addr} {axk axd : Nat} {aym : Bool} {ayo : Option Addr} {ayn ayc : Nat} {ayp : Option Addr} {ayk ayd : Nat} {bxm : Bool} {bxo : Option Addr} {bxn bxc : Nat} {bxp : Option Addr} {bxk bxd : Nat} {bym : Bool} {byo : Option Addr} {byn byc : Nat} {byp : Option Addr} {byk byd : Nat} {sxm : Bool} {sxo : Option Addr} {sxn sxc : Nat} {sxp : Option Addr} {sxk sxd : Nat} {sym : Bool} {syo : Option Addr} {syn syc : Nat} {syp : Option Addr} {syk syd : Nat} (La : Nat) (axq ayq : Rat) (Lb : Nat) (bxq byq : Rat) (Ls : Nat) (sxq syq : Rat) (d : Int) (w : World) (hLa : La ≤ 1000000) (hLb : Lb ≤ 1000000) (hLs : Ls ≤ 1000000) (fax_0 : FQ w (.agg #[.bool axm, .slice axo axn axc, .slice axp axk axd]) La axq) (fay_0 : FQ w (.agg #[.bool aym, .slice ayo ayn ayc, .slice ayp ayk ayd]) La ayq) (fbx_0 : FQ w (.agg #[.bool bxm, .slice bxo bxn bxc, .slice bxp bxk bxd]) Lb bxq) (fby_0 : FQ w (.agg #[.bool bym, .slice byo byn byc, .slice byp byk byd]) Lb byq) (fsx_0 : FQ w (.agg #[.bool sxm, .slice sxo sxn sxc, .slice sxp sxk sxd]) Ls sxq) (fsy_0 : FQ w (.agg #[.bool sym, .slice syo syn syc, .slice syp syk syd]) Ls syq) (h : sideQ axq ayq bxq byq sxq syq = d) :
    Calls Try.prog 22 #[.agg #[.bool axm, .slice axo axn axc, .slice axp axk axd, .bool aym, .slice ayo ayn ayc, .slice ayp ayk ayd], .agg #[.bool bxm, .slice bxo bxn bxc, .slice bxp bxk bxd, .bool bym, .slice byo byn byc, .slice byp byk byd], .agg #[.bool sxm, .slice sxo sxn sxc, .slice sxp sxk sxd, .bool sym, .slice syo syn syc, .slice syp syk syd]] w fun e w' => e = .returned (.int .i64 d) ∧ Below w.heap.size w w' := by
  have hB_0 := Below.refl w.heap.size w
  have HLa := Lib.hid hLa; have HLb := Lib.hid hLb; have HLs := Lib.hid hLs
  clear hLa hLb hLs
  unfold sideQ at h
  have H := Lib.hid h
  clear h
  obtain ⟨w1, hw1, pa_0, hb1, hs1⟩ := new_box w (w.heap.size) rfl [.bool axm, .slice axo axn axc, .slice axp axk axd, .bool aym, .slice ayo ayn ayc, .slice ayp ayk ayd] 33
  have hb1' : Below w.heap.size w w1 := hb1.mono (by omega)
  clear hb1
  have hB_1 := hB_0.trans (hb1'.mono hB_0.size)
  have fax_1 := fax_0.below hb1'
  have fay_1 := fay_0.below hb1'
  have fbx_1 := fbx_0.below hb1'
  have fby_1 := fby_0.below hb1'
  have fsx_1 := fsx_0.below hb1'
  have fsy_1 := fsy_0.below hb1'
  clear hb1' hB_0 fax_0 fay_0 fbx_0 fby_0 fsx_0 fsy_0
  obtain ⟨w2, hw2, pb_0, hb2, hs2⟩ := new_box w1 (w.heap.size + 1) hs1 [.bool bxm, .slice bxo bxn bxc, .slice bxp bxk bxd, .bool bym, .slice byo byn byc, .slice byp byk byd] 33
  have hb2' : Below w1.heap.size w1 w2 := hb2.mono (by omega)
  clear hb2
  have hB_2 := hB_1.trans (hb2'.mono hB_1.size)
  have fax_2 := fax_1.below hb2'
  have fay_2 := fay_1.below hb2'
  have fbx_2 := fbx_1.below hb2'
  have fby_2 := fby_1.below hb2'
  have fsx_2 := fsx_1.below hb2'
  have fsy_2 := fsy_1.below hb2'
  have pa_1 := pa_0.below hb2'
  clear hb2' hB_1 fax_1 fay_1 fbx_1 fby_1 fsx_1 fsy_1 pa_0
  obtain ⟨w3, hw3, ps_0, hb3, hs3⟩ := new_box w2 (w.heap.size + 1 + 1) hs2 [.bool sxm, .slice sxo sxn sxc, .slice sxp sxk sxd, .bool sym, .slice syo syn syc, .slice syp syk syd] 33
  have hb3' : Below w2.heap.size w2 w3 := hb3.mono (by omega)
  clear hb3
  have hB_3 := hB_2.trans (hb3'.mono hB_2.size)
  have fax_3 := fax_2.below hb3'
  have fay_3 := fay_2.below hb3'
  have fbx_3 := fbx_2.below hb3'
  have fby_3 := fby_2.below hb3'
  have fsx_3 := fsx_2.below hb3'
  have fsy_3 := fsy_2.below hb3'
  have pa_2 := pa_1.below hb3'
  have pb_1 := pb_0.below hb3'
  clear hb3' hB_2 fax_2 fay_2 fbx_2 fby_2 fsx_2 fsy_2 pa_1 pb_0
  go_enter Try.func22, Try.ntmps22
  obtain ⟨pae0, pae1, pae2, pae3, pae4, pae5, pae6, pae7, pae8, pae9, pae10, pae11⟩ := pa_2.open6
  obtain ⟨pbe0, pbe1, pbe2, pbe3, pbe4, pbe5, pbe6, pbe7, pbe8, pbe9, pbe10, pbe11⟩ := pb_1.open6
  obtain ⟨pse0, pse1, pse2, pse3, pse4, pse5, pse6, pse7, pse8, pse9, pse10, pse11⟩ := ps_0.open6
  go_wp2
  clear pae0 pae1 pae2 pae3 pae4 pae5 pae6 pae7 pae8 pae9 pae10 pae11 pbe0 pbe1 pbe2 pbe3 pbe4 pbe5 pbe6 pbe7 pbe8 pbe9 pbe10 pbe11 pse0 pse1 pse2 pse3 pse4 pse5 pse6 pse7 pse8 pse9 pse10 pse11
  have hWq_0 := Below.refl w3.heap.size w3
  have hsq : w.heap.size ≤ w3.heap.size := hB_3.size
  have hlqpa := pa_2.lt
  have hlqpb := pb_1.lt
  have hlqps := ps_0.lt
  have hB_4 := hB_3.drew'
  have fax_4 := fax_3.drew
  have fay_4 := fay_3.drew
  have fbx_4 := fbx_3.drew
  have fby_4 := fby_3.drew
  have fsx_4 := fsx_3.drew
  have fsy_4 := fsy_3.drew
  have pa_3 := pa_2.drew
  have pb_2 := pb_1.drew
  have ps_1 := ps_0.drew
  have hWq_1 := hWq_0.drew'
  clear hB_3 fax_3 fay_3 fbx_3 fby_3 fsx_3 fsy_3 pa_2 pb_1 ps_0 hWq_0
  obtain ⟨FFq, hFFq⟩ : ∃ F : World → Prop, ∀ w', F w' ↔ (Below w.heap.size w w' ∧ FQ w' (.agg #[.bool axm, .slice axo axn axc, .slice axp axk axd]) La axq ∧ FQ w' (.agg #[.bool aym, .slice ayo ayn ayc, .slice ayp ayk ayd]) La ayq ∧ FQ w' (.agg #[.bool bxm, .slice bxo bxn bxc, .slice bxp bxk bxd]) Lb bxq ∧ FQ w' (.agg #[.bool bym, .slice byo byn byc, .slice byp byk byd]) Lb byq ∧ FQ w' (.agg #[.bool sxm, .slice sxo sxn sxc, .slice sxp sxk sxd]) Ls sxq ∧ FQ w' (.agg #[.bool sym, .slice syo syn syc, .slice syp syk syd]) Ls syq ∧ Box w' (w.heap.size) [.bool axm, .slice axo axn axc, .slice axp axk axd, .bool aym, .slice ayo ayn ayc, .slice ayp ayk ayd] ∧ Box w' (w.heap.size + 1) [.bool bxm, .slice bxo bxn bxc, .slice bxp bxk bxd, .bool bym, .slice byo byn byc, .slice byp byk byd] ∧ Box w' (w.heap.size + 1 + 1) [.bool sxm, .slice sxo sxn sxc, .slice sxp sxk sxd, .bool sym, .slice syo syn syc, .slice syp syk syd] ∧ Below w3.heap.size w3 w') := ⟨_, fun _ => Iff.rfl⟩
  have cFq : ∀ {w' w'' : World}, FFq w' → Below w'.heap.size w' w'' → FFq w'' := by
    intro w' w'' h hb
    obtain ⟨y0, y1, y2, y3, y4, y5, y6, y7, y8, y9, y10⟩ := (hFFq _).1 h
    exact (hFFq _).2 ⟨y0.trans (hb.mono y0.size), y1.below hb, y2.below hb, y3.below hb, y4.below hb, y5.below hb, y6.below hb, y7.below hb, y8.below hb, y9.below hb, y10.trans (hb.mono y10.size)⟩
  have mFq : ∀ {w' : World}, FFq w' → w3.heap.size ≤ w'.heap.size := by
    intro w' h
    obtain ⟨y0, y1, y2, y3, y4, y5, y6, y7, y8, y9, y10⟩ := (hFFq _).1 h
    exact y10.size
  have sFq : ∀ {w' : World}, FFq w' → (w'.cell? ⟨w.heap.size, 0, none⟩ = some (.bool axm) ∧ w'.cell? ⟨w.heap.size, 1, none⟩ = some (.slice axo axn axc) ∧ w'.cell? ⟨w.heap.size, 2, none⟩ = some (.slice axp axk axd) ∧ w'.cell? ⟨w.heap.size, 3, none⟩ = some (.bool aym) ∧ w'.cell? ⟨w.heap.size, 4, none⟩ = some (.slice ayo ayn ayc) ∧ w'.cell? ⟨w.heap.size, 5, none⟩ = some (.slice ayp ayk ayd) ∧ w'.cell? ⟨w.heap.size + 1, 0, none⟩ = some (.bool bxm) ∧ w'.cell? ⟨w.heap.size + 1, 1, none⟩ = some (.slice bxo bxn bxc) ∧ w'.cell? ⟨w.heap.size + 1, 2, none⟩ = some (.slice bxp bxk bxd) ∧ w'.cell? ⟨w.heap.size + 1, 3, none⟩ = some (.bool bym) ∧ w'.cell? ⟨w.heap.size + 1, 4, none⟩ = some (.slice byo byn byc) ∧ w'.cell? ⟨w.heap.size + 1, 5, none⟩ = some (.slice byp byk byd) ∧ w'.cell? ⟨w.heap.size + 1 + 1, 0, none⟩ = some (.bool sxm) ∧ w'.cell? ⟨w.heap.size + 1 + 1, 1, none⟩ = some (.slice sxo sxn sxc) ∧ w'.cell? ⟨w.heap.size + 1 + 1, 2, none⟩ = some (.slice sxp sxk sxd) ∧ w'.cell? ⟨w.heap.size + 1 + 1, 3, none⟩ = some (.bool sym) ∧ w'.cell? ⟨w.heap.size + 1 + 1, 4, none⟩ = some (.slice syo syn syc) ∧ w'.cell? ⟨w.heap.size + 1 + 1, 5, none⟩ = some (.slice syp syk syd)) := by
    intro w' h
    obtain ⟨y0, y1, y2, y3, y4, y5, y6, y7, y8, y9, y10⟩ := (hFFq _).1 h
    exact ⟨y7.c0, y7.c1, y7.c2, y7.c3, y7.c4, y7.c5, y8.c0, y8.c1, y8.c2, y8.c3, y8.c4, y8.c5, y9.c0, y9.c1, y9.c2, y9.c3, y9.c4, y9.c5⟩
  have zF : FFq w3.drew := (hFFq _).2 ⟨hB_4, fax_4, fay_4, fbx_4, fby_4, fsx_4, fsy_4, pa_3, pb_2, ps_1, hWq_1⟩
  clear hB_4 fax_4 fay_4 fbx_4 fby_4 fsx_4 fsy_4 pa_3 pb_2 ps_1 hWq_1
  refine wp_region_noPanic ?_
  refine wp_region_held_drew (S := fun w' => w'.cell? ⟨w.heap.size, 0, none⟩ = some (.bool axm) ∧ w'.cell? ⟨w.heap.size, 1, none⟩ = some (.slice axo axn axc) ∧ w'.cell? ⟨w.heap.size, 2, none⟩ = some (.slice axp axk axd) ∧ w'.cell? ⟨w.heap.size, 3, none⟩ = some (.bool aym) ∧ w'.cell? ⟨w.heap.size, 4, none⟩ = some (.slice ayo ayn ayc) ∧ w'.cell? ⟨w.heap.size, 5, none⟩ = some (.slice ayp ayk ayd) ∧ w'.cell? ⟨w.heap.size + 1, 0, none⟩ = some (.bool bxm) ∧ w'.cell? ⟨w.heap.size + 1, 1, none⟩ = some (.slice bxo bxn bxc) ∧ w'.cell? ⟨w.heap.size + 1, 2, none⟩ = some (.slice bxp bxk bxd) ∧ w'.cell? ⟨w.heap.size + 1, 3, none⟩ = some (.bool bym) ∧ w'.cell? ⟨w.heap.size + 1, 4, none⟩ = some (.slice byo byn byc) ∧ w'.cell? ⟨w.heap.size + 1, 5, none⟩ = some (.slice byp byk byd) ∧ w'.cell? ⟨w.heap.size + 1 + 1, 0, none⟩ = some (.bool sxm) ∧ w'.cell? ⟨w.heap.size + 1 + 1, 1, none⟩ = some (.slice sxo sxn sxc) ∧ w'.cell? ⟨w.heap.size + 1 + 1, 2, none⟩ = some (.slice sxp sxk sxd) ∧ w'.cell? ⟨w.heap.size + 1 + 1, 3, none⟩ = some (.bool sym) ∧ w'.cell? ⟨w.heap.size + 1 + 1, 4, none⟩ = some (.slice syo syn syc) ∧ w'.cell? ⟨w.heap.size + 1 + 1, 5, none⟩ = some (.slice syp syk syd)) (by kernel_rfl) (sFq zF) (fun hHeld => ?_)
  refine reg_take 0 ?_ ?_ ?_ (by kernel_rfl) (by kernel_rfl) (by kernel_rfl) (fun _ _ _ h => h) ?_ ?_ (by assumption) ?_
  rotate_left 2
  · simp only [List.getElem?_toArray, List.getElem?_cons_zero]; exact rfl
  · rfl
  · intro w hSw; (try dsimp only at hSw); go_simp; try with_reducible rfl
  try simp only [Act.put]
  try simp only [List.setIfInBounds_toArray, List.set_cons_zero, List.set_cons_succ]
  refine reg_take 1 ?_ ?_ ?_ (by kernel_rfl) (by kernel_rfl) (by kernel_rfl) (fun _ _ _ h => h) ?_ ?_ (by assumption) ?_
  rotate_left 2
  · simp only [List.getElem?_toArray, List.getElem?_cons_succ, List.getElem?_cons_zero]; exact rfl
  · rfl
  · intro w hSw; (try dsimp only at hSw); go_simp; try with_reducible rfl
  try simp only [Act.put]
  try simp only [List.setIfInBounds_toArray, List.set_cons_zero, List.set_cons_succ]
  refine reg_take 3 ?_ ?_ ?_ (by kernel_rfl) (by kernel_rfl) (by kernel_rfl) (fun _ _ _ h => h) ?_ ?_ (by assumption) ?_
  rotate_left 2
  · simp only [List.getElem?_toArray, List.getElem?_cons_succ, List.getElem?_cons_zero]; exact rfl
  · rfl
  · intro w hSw; (try dsimp only at hSw); go_simp; try with_reducible rfl
  try simp only [Act.put]
  try simp only [List.setIfInBounds_toArray, List.set_cons_zero, List.set_cons_succ]
  refine reg_take 4 ?_ ?_ ?_ (by kernel_rfl) (by kernel_rfl) (by kernel_rfl) (fun _ _ _ h => h) ?_ ?_ (by assumption) ?_
  rotate_left 2
  · simp only [List.getElem?_toArray, List.getElem?_cons_succ, List.getElem?_cons_zero]; exact rfl
  · rfl
  · intro w hSw; (try dsimp only at hSw); go_simp; try with_reducible rfl
  try simp only [Act.put]
  try simp only [List.setIfInBounds_toArray, List.set_cons_zero, List.set_cons_succ]
  refine reg_grab (fun WWq aq hWW hAA => ?_)
  rw [hWW]
  have HAq := Lib.hid hAA; clear hWW hAA hHeld
  obtain ⟨IVq, hIVq⟩ : ∃ IV : Array Bool → Act → World → Prop, ∀ l a w', IV l a w' ↔ ∃ (lb2 lb5 lb6 lb7 : Bool) (lv2 lv5 lv6 lv7 : Value) (m1x : Bool) (o1x : Option Addr) (n1x : Nat) (c1x : Nat) (p1x : Option Addr) (k1x : Nat) (d1x : Nat) (m1y : Bool) (o1y : Option Addr) (n1y : Nat) (c1y : Nat) (p1y : Option Addr) (k1y : Nat) (d1y : Nat) (m2x : Bool) (o2x : Option Addr) (n2x : Nat) (c2x : Nat) (p2x : Option Addr) (k2x : Nat) (d2x : Nat) (m2y : Bool) (o2y : Option Addr) (n2y : Nat) (c2y : Nat) (p2y : Option Addr) (k2y : Nat) (d2y : Nat) (gpl gpw : Nat), l = #[true, true, lb2, true, true, lb5, lb6, lb7, false, false] ∧ a = ((((aq.put (some 11) lv2).put (some 14) lv5).put (some 7) lv6).put (some 8) lv7) ∧ FFq w' ∧ (lb2 = true → lv2 = .agg #[.bool m1x, .slice o1x n1x c1x, .slice p1x k1x d1x, .bool m1y, .slice o1y n1y c1y, .slice p1y k1y d1y] ∧ RF w' (.agg #[.bool m1x, .slice o1x n1x c1x, .slice p1x k1x d1x]) (Lb + La + 2) (bxq - axq) ∧ RF w' (.agg #[.bool m1y, .slice o1y n1y c1y, .slice p1y k1y d1y]) (Lb + La + 2) (byq - ayq)) ∧ (lb5 = true → lv5 = .agg #[.bool m2x, .slice o2x n2x c2x, .slice p2x k2x d2x, .bool m2y, .slice o2y n2y c2y, .slice p2y k2y d2y] ∧ RF w' (.agg #[.bool m2x, .slice o2x n2x c2x, .slice p2x k2x d2x]) (Ls + La + 2) (sxq - axq) ∧ RF w' (.agg #[.bool m2y, .slice o2y n2y c2y, .slice p2y k2y d2y]) (Ls + La + 2) (syq - ayq)) ∧ (lb6 = true → lv6 = .pointer (some ⟨gpl, 0, none⟩) ∧ Box w' gpl [.bool false, .slice none 0 0, .slice none 0 0, .bool false, .slice none 0 0, .slice none 0 0] ∧ w3.heap.size ≤ gpl) ∧ (lb7 = true → lv7 = .pointer (some ⟨gpw, 0, none⟩) ∧ Box w' gpw [.bool false, .slice none 0 0, .slice none 0 0, .bool false, .slice none 0 0, .slice none 0 0] ∧ w3.heap.size ≤ gpw) ∧ (lb5 = true → lb2 = true) ∧ (lb6 = true → lb7 = true → gpl ≠ gpw) := ⟨_, fun _ _ _ => Iff.rfl⟩
  refine wpAnyH_until IVq ?_ _ _ _ _ ((hIVq _ _ _).2 ⟨false, false, false, false, (aq.tmps.getD 11 undef), (aq.tmps.getD 14 undef), (aq.tmps.getD 7 undef), (aq.tmps.getD 8 undef), false, none, 0, 0, none, 0, 0, false, none, 0, 0, none, 0, 0, false, none, 0, 0, none, 0, 0, false, none, 0, 0, none, 0, 0, 0, 0, rfl, (by simp only [put_same]), zF, (fun h => by cases h), (fun h => by cases h), (fun h => by cases h), (fun h => by cases h), (fun h => by cases h), (fun h => by cases h)⟩) (by kernel_rfl)
  clear zF
  intro ll aa w4 hI
  obtain ⟨lb2, lb5, lb6, lb7, lv2, lv5, lv6, lv7, m1x, o1x, n1x, c1x, p1x, k1x, d1x, m1y, o1y, n1y, c1y, p1y, k1y, d1y, m2x, o2x, n2x, c2x, p2x, k2x, d2x, m2y, o2y, n2y, c2y, p2y, k2y, d2y, gpl, gpw, rfl, rfl, zF, F2, F5, F6, F7, dp5_2, nq6_7⟩ := (hIVq _ _ _).1 hI
  clear hI
  by_cases hL : lb2 = true ∧ lb5 = true ∧ lb6 = true ∧ lb7 = true
  · left
    obtain ⟨rfl, rfl, rfl, rfl⟩ := hL
    obtain ⟨rfl, f1x_0, f1y_0⟩ := F2 rfl
    clear F2
    obtain ⟨rfl, f2x_0, f2y_0⟩ := F5 rfl
    clear F5
    obtain ⟨rfl, pl_0, hgpl⟩ := F6 rfl
    clear F6
    obtain ⟨rfl, pw_0, hgpw⟩ := F7 rfl
    clear F7
    have hnplpw := nq6_7 rfl rfl
    clear dp5_2 nq6_7
    show wpAnyH _ _ _ _ _ 2 _ _ _
    rw [HAq.out]
    try simp only [Act.put]
    try simp only [List.setIfInBounds_toArray, List.set_cons_zero, List.set_cons_succ]
    obtain ⟨hB_0, fax_0, fay_0, fbx_0, fby_0, fsx_0, fsy_0, pa_0, pb_0, ps_0, hWq_0⟩ := (hFFq _).1 zF
    clear zF
    clear hWq_0
    obtain ⟨sf1a, sf1b, sf1c, sf1d, sf1e, sf1f, sf1g, sf1h, sf1i, sf1j, sf1k, sf1l⟩ := pl_0.open6
    obtain ⟨sg1a, sg1b, sg1c, sg1d, sg1e, sg1f, sg1g, sg1h, sg1i, sg1j⟩ := Box.put6 pl_0 (.bool m1x) (.slice o1x n1x c1x) (.slice p1x k1x d1x) (.bool m1y) (.slice o1y n1y c1y)
    refine reg_call 8 ?_ (by kernel_rfl) ?_ (fun K hK => ?_)
    rotate_left 1
    · simp only [List.getElem?_toArray, List.getElem?_cons_succ, List.getElem?_cons_zero]; exact rfl
    go_simp
    have hB_1 := below_setAll hB_0 (g := gpl) (by omega) [.bool m1x, .slice o1x n1x c1x, .slice p1x k1x d1x, .bool m1y, .slice o1y n1y c1y, .slice p1y k1y d1y]
    have fax_1 := fax_0.setAll pl_0 (noWord6 _ _ _ _ _ _ _ _ _ _ _ _ _ _) [.bool m1x, .slice o1x n1x c1x, .slice p1x k1x d1x, .bool m1y, .slice o1y n1y c1y, .slice p1y k1y d1y] rfl
    have fay_1 := fay_0.setAll pl_0 (noWord6 _ _ _ _ _ _ _ _ _ _ _ _ _ _) [.bool m1x, .slice o1x n1x c1x, .slice p1x k1x d1x, .bool m1y, .slice o1y n1y c1y, .slice p1y k1y d1y] rfl
    have fbx_1 := fbx_0.setAll pl_0 (noWord6 _ _ _ _ _ _ _ _ _ _ _ _ _ _) [.bool m1x, .slice o1x n1x c1x, .slice p1x k1x d1x, .bool m1y, .slice o1y n1y c1y, .slice p1y k1y d1y] rfl
    have fby_1 := fby_0.setAll pl_0 (noWord6 _ _ _ _ _ _ _ _ _ _ _ _ _ _) [.bool m1x, .slice o1x n1x c1x, .slice p1x k1x d1x, .bool m1y, .slice o1y n1y c1y, .slice p1y k1y d1y] rfl
    have fsx_1 := fsx_0.setAll pl_0 (noWord6 _ _ _ _ _ _ _ _ _ _ _ _ _ _) [.bool m1x, .slice o1x n1x c1x, .slice p1x k1x d1x, .bool m1y, .slice o1y n1y c1y, .slice p1y k1y d1y] rfl
    have fsy_1 := fsy_0.setAll pl_0 (noWord6 _ _ _ _ _ _ _ _ _ _ _ _ _ _) [.bool m1x, .slice o1x n1x c1x, .slice p1x k1x d1x, .bool m1y, .slice o1y n1y c1y, .slice p1y k1y d1y] rfl
    have pa_1 := pa_0.farAll (g' := gpl) (by omega) [.bool m1x, .slice o1x n1x c1x, .slice p1x k1x d1x, .bool m1y, .slice o1y n1y c1y, .slice p1y k1y d1y]
    have pb_1 := pb_0.farAll (g' := gpl) (by omega) [.bool m1x, .slice o1x n1x c1x, .slice p1x k1x d1x, .bool m1y, .slice o1y n1y c1y, .slice p1y k1y d1y]
    have ps_1 := ps_0.farAll (g' := gpl) (by omega) [.bool m1x, .slice o1x n1x c1x, .slice p1x k1x d1x, .bool m1y, .slice o1y n1y c1y, .slice p1y k1y d1y]
    have f1x_1 := f1x_0.setAll pl_0 (noWord6 _ _ _ _ _ _ _ _ _ _ _ _ _ _) [.bool m1x, .slice o1x n1x c1x, .slice p1x k1x d1x, .bool m1y, .slice o1y n1y c1y, .slice p1y k1y d1y] rfl
    have f1y_1 := f1y_0.setAll pl_0 (noWord6 _ _ _ _ _ _ _ _ _ _ _ _ _ _) [.bool m1x, .slice o1x n1x c1x, .slice p1x k1x d1x, .bool m1y, .slice o1y n1y c1y, .slice p1y k1y d1y] rfl
    have f2x_1 := f2x_0.setAll pl_0 (noWord6 _ _ _ _ _ _ _ _ _ _ _ _ _ _) [.bool m1x, .slice o1x n1x c1x, .slice p1x k1x d1x, .bool m1y, .slice o1y n1y c1y, .slice p1y k1y d1y] rfl
    have f2y_1 := f2y_0.setAll pl_0 (noWord6 _ _ _ _ _ _ _ _ _ _ _ _ _ _) [.bool m1x, .slice o1x n1x c1x, .slice p1x k1x d1x, .bool m1y, .slice o1y n1y c1y, .slice p1y k1y d1y] rfl
    have pw_1 := pw_0.farAll (g' := gpl) (by omega) [.bool m1x, .slice o1x n1x c1x, .slice p1x k1x d1x, .bool m1y, .slice o1y n1y c1y, .slice p1y k1y d1y]
    have pl_1 := pl_0.setAll [.bool m1x, .slice o1x n1x c1x, .slice p1x k1x d1x, .bool m1y, .slice o1y n1y c1y, .slice p1y k1y d1y] rfl
    simp only [setAll, Nat.zero_add, Nat.reduceAdd] at hB_1 fax_1 fay_1 fbx_1 fby_1 fsx_1 fsy_1 pa_1 pb_1 ps_1 f1x_1 f1y_1 f2x_1 f2y_1 pl_1 pw_1
    clear sf1a sf1b sf1c sf1d sf1e sf1f sf1g sf1h sf1i sf1j sf1k sf1l sg1a sg1b sg1c sg1d sg1e sg1f sg1g sg1h sg1i sg1j
    clear hB_0 fax_0 fay_0 fbx_0 fby_0 fsx_0 fsy_0 pa_0 pb_0 ps_0 f1x_0 f1y_0 f2x_0 f2y_0 pw_0 pl_0
    refine hK.out _ _ ⟨pa_1.c0, pa_1.c1, pa_1.c2, pa_1.c3, pa_1.c4, pa_1.c5, pb_1.c0, pb_1.c1, pb_1.c2, pb_1.c3, pb_1.c4, pb_1.c5, ps_1.c0, ps_1.c1, ps_1.c2, ps_1.c3, ps_1.c4, ps_1.c5⟩ (fun hHeld => ?_)
    clear hK K
    try simp only [Act.put]
    try simp only [List.setIfInBounds_toArray, List.set_cons_zero, List.set_cons_succ]
    generalize (World.setCell (World.setCell (World.setCell (World.setCell (World.setCell (World.setCell w4 ⟨gpl, 0, none⟩ (.bool m1x)) ⟨gpl, 1, none⟩ (.slice o1x n1x c1x)) ⟨gpl, 2, none⟩ (.slice p1x k1x d1x)) ⟨gpl, 3, none⟩ (.bool m1y)) ⟨gpl, 4, none⟩ (.slice o1y n1y c1y)) ⟨gpl, 5, none⟩ (.slice p1y k1y d1y)) = w5 at *
    obtain ⟨sf2a, sf2b, sf2c, sf2d, sf2e, sf2f, sf2g, sf2h, sf2i, sf2j, sf2k, sf2l⟩ := pw_1.open6
    obtain ⟨sg2a, sg2b, sg2c, sg2d, sg2e, sg2f, sg2g, sg2h, sg2i, sg2j⟩ := Box.put6 pw_1 (.bool m2x) (.slice o2x n2x c2x) (.slice p2x k2x d2x) (.bool m2y) (.slice o2y n2y c2y)
    refine reg_call 9 ?_ (by kernel_rfl) ?_ (fun K hK => ?_)
    rotate_left 1
    · simp only [List.getElem?_toArray, List.getElem?_cons_succ, List.getElem?_cons_zero]; exact rfl
    go_simp
    have hB_2 := below_setAll hB_1 (g := gpw) (by omega) [.bool m2x, .slice o2x n2x c2x, .slice p2x k2x d2x, .bool m2y, .slice o2y n2y c2y, .slice p2y k2y d2y]
    have fax_2 := fax_1.setAll pw_1 (noWord6 _ _ _ _ _ _ _ _ _ _ _ _ _ _) [.bool m2x, .slice o2x n2x c2x, .slice p2x k2x d2x, .bool m2y, .slice o2y n2y c2y, .slice p2y k2y d2y] rfl
    have fay_2 := fay_1.setAll pw_1 (noWord6 _ _ _ _ _ _ _ _ _ _ _ _ _ _) [.bool m2x, .slice o2x n2x c2x, .slice p2x k2x d2x, .bool m2y, .slice o2y n2y c2y, .slice p2y k2y d2y] rfl
    have fbx_2 := fbx_1.setAll pw_1 (noWord6 _ _ _ _ _ _ _ _ _ _ _ _ _ _) [.bool m2x, .slice o2x n2x c2x, .slice p2x k2x d2x, .bool m2y, .slice o2y n2y c2y, .slice p2y k2y d2y] rfl
    have fby_2 := fby_1.setAll pw_1 (noWord6 _ _ _ _ _ _ _ _ _ _ _ _ _ _) [.bool m2x, .slice o2x n2x c2x, .slice p2x k2x d2x, .bool m2y, .slice o2y n2y c2y, .slice p2y k2y d2y] rfl
    have fsx_2 := fsx_1.setAll pw_1 (noWord6 _ _ _ _ _ _ _ _ _ _ _ _ _ _) [.bool m2x, .slice o2x n2x c2x, .slice p2x k2x d2x, .bool m2y, .slice o2y n2y c2y, .slice p2y k2y d2y] rfl
    have fsy_2 := fsy_1.setAll pw_1 (noWord6 _ _ _ _ _ _ _ _ _ _ _ _ _ _) [.bool m2x, .slice o2x n2x c2x, .slice p2x k2x d2x, .bool m2y, .slice o2y n2y c2y, .slice p2y k2y d2y] rfl
    have pa_2 := pa_1.farAll (g' := gpw) (by omega) [.bool m2x, .slice o2x n2x c2x, .slice p2x k2x d2x, .bool m2y, .slice o2y n2y c2y, .slice p2y k2y d2y]
    have pb_2 := pb_1.farAll (g' := gpw) (by omega) [.bool m2x, .slice o2x n2x c2x, .slice p2x k2x d2x, .bool m2y, .slice o2y n2y c2y, .slice p2y k2y d2y]
    have ps_2 := ps_1.farAll (g' := gpw) (by omega) [.bool m2x, .slice o2x n2x c2x, .slice p2x k2x d2x, .bool m2y, .slice o2y n2y c2y, .slice p2y k2y d2y]
    have f1x_2 := f1x_1.setAll pw_1 (noWord6 _ _ _ _ _ _ _ _ _ _ _ _ _ _) [.bool m2x, .slice o2x n2x c2x, .slice p2x k2x d2x, .bool m2y, .slice o2y n2y c2y, .slice p2y k2y d2y] rfl
    have f1y_2 := f1y_1.setAll pw_1 (noWord6 _ _ _ _ _ _ _ _ _ _ _ _ _ _) [.bool m2x, .slice o2x n2x c2x, .slice p2x k2x d2x, .bool m2y, .slice o2y n2y c2y, .slice p2y k2y d2y] rfl
    have f2x_2 := f2x_1.setAll pw_1 (noWord6 _ _ _ _ _ _ _ _ _ _ _ _ _ _) [.bool m2x, .slice o2x n2x c2x, .slice p2x k2x d2x, .bool m2y, .slice o2y n2y c2y, .slice p2y k2y d2y] rfl
    have f2y_2 := f2y_1.setAll pw_1 (noWord6 _ _ _ _ _ _ _ _ _ _ _ _ _ _) [.bool m2x, .slice o2x n2x c2x, .slice p2x k2x d2x, .bool m2y, .slice o2y n2y c2y, .slice p2y k2y d2y] rfl
    have pl_2 := pl_1.farAll (g' := gpw) (by omega) [.bool m2x, .slice o2x n2x c2x, .slice p2x k2x d2x, .bool m2y, .slice o2y n2y c2y, .slice p2y k2y d2y]
    have pw_2 := pw_1.setAll [.bool m2x, .slice o2x n2x c2x, .slice p2x k2x d2x, .bool m2y, .slice o2y n2y c2y, .slice p2y k2y d2y] rfl
    simp only [setAll, Nat.zero_add, Nat.reduceAdd] at hB_2 fax_2 fay_2 fbx_2 fby_2 fsx_2 fsy_2 pa_2 pb_2 ps_2 f1x_2 f1y_2 f2x_2 f2y_2 pl_2 pw_2
    clear sf2a sf2b sf2c sf2d sf2e sf2f sf2g sf2h sf2i sf2j sf2k sf2l sg2a sg2b sg2c sg2d sg2e sg2f sg2g sg2h sg2i sg2j
    clear hB_1 fax_1 fay_1 fbx_1 fby_1 fsx_1 fsy_1 pa_1 pb_1 ps_1 f1x_1 f1y_1 f2x_1 f2y_1 pl_1 pw_1
    refine hK.out _ _ ⟨pa_2.c0, pa_2.c1, pa_2.c2, pa_2.c3, pa_2.c4, pa_2.c5, pb_2.c0, pb_2.c1, pb_2.c2, pb_2.c3, pb_2.c4, pb_2.c5, ps_2.c0, ps_2.c1, ps_2.c2, ps_2.c3, ps_2.c4, ps_2.c5⟩ (fun hHeld => ?_)
    clear hK K
    try simp only [Act.put]
    try simp only [List.setIfInBounds_toArray, List.set_cons_zero, List.set_cons_succ]
    generalize (World.setCell (World.setCell (World.setCell (World.setCell (World.setCell (World.setCell w5 ⟨gpw, 0, none⟩ (.bool m2x)) ⟨gpw, 1, none⟩ (.slice o2x n2x c2x)) ⟨gpw, 2, none⟩ (.slice p2x k2x d2x)) ⟨gpw, 3, none⟩ (.bool m2y)) ⟨gpw, 4, none⟩ (.slice o2y n2y c2y)) ⟨gpw, 5, none⟩ (.slice p2y k2y d2y)) = w6 at *
    refine wpAnyH_done (by kernel_rfl) ?_ _
    refine NoPanic.normal ?_
    clear pa_2
    clear pb_2
    clear ps_2
    obtain ⟨ple0, ple1, ple2, ple3, ple4, ple5, ple6, ple7, ple8, ple9, ple10, ple11⟩ := pl_2.open6
    obtain ⟨pwe0, pwe1, pwe2, pwe3, pwe4, pwe5, pwe6, pwe7, pwe8, pwe9, pwe10, pwe11⟩ := pw_2.open6
    go_wp2
    clear ple0 ple1 ple2 ple3 ple4 ple5 ple6 ple7 ple8 ple9 ple10 ple11 pwe0 pwe1 pwe2 pwe3 pwe4 pwe5 pwe6 pwe7 pwe8 pwe9 pwe10 pwe11
    have hB_3 := hB_2.drew'
    have fax_3 := fax_2.drew
    have fay_3 := fay_2.drew
    have fbx_3 := fbx_2.drew
    have fby_3 := fby_2.drew
    have fsx_3 := fsx_2.drew
    have fsy_3 := fsy_2.drew
    have f1x_3 := f1x_2.drew
    have f1y_3 := f1y_2.drew
    have f2x_3 := f2x_2.drew
    have f2y_3 := f2y_2.drew
    have pl_3 := pl_2.drew
    have pw_3 := pw_2.drew
    clear hB_2 fax_2 fay_2 fbx_2 fby_2 fsx_2 fsy_2 f1x_2 f1y_2 f2x_2 f2y_2 pl_2 pw_2
    go_region_held3 (fun w' => w'.cell? ⟨gpl, 0, none⟩ = some (.bool m1x) ∧ w'.cell? ⟨gpl, 1, none⟩ = some (.slice o1x n1x c1x) ∧ w'.cell? ⟨gpl, 2, none⟩ = some (.slice p1x k1x d1x) ∧ w'.cell? ⟨gpl, 3, none⟩ = some (.bool m1y) ∧ w'.cell? ⟨gpl, 4, none⟩ = some (.slice o1y n1y c1y) ∧ w'.cell? ⟨gpl, 5, none⟩ = some (.slice p1y k1y d1y) ∧ w'.cell? ⟨gpw, 0, none⟩ = some (.bool m2x) ∧ w'.cell? ⟨gpw, 1, none⟩ = some (.slice o2x n2x c2x) ∧ w'.cell? ⟨gpw, 2, none⟩ = some (.slice p2x k2x d2x) ∧ w'.cell? ⟨gpw, 3, none⟩ = some (.bool m2y) ∧ w'.cell? ⟨gpw, 4, none⟩ = some (.slice o2y n2y c2y) ∧ w'.cell? ⟨gpw, 5, none⟩ = some (.slice p2y k2y d2y))
      (first | with_reducible exact ⟨pl_3.c0, pl_3.c1, pl_3.c2, pl_3.c3, pl_3.c4, pl_3.c5, pw_3.c0, pw_3.c1, pw_3.c2, pw_3.c3, pw_3.c4, pw_3.c5⟩ | with_reducible exact ⟨pl_4.c0, pl_4.c1, pl_4.c2, pl_4.c3, pl_4.c4, pl_4.c5, pw_4.c0, pw_4.c1, pw_4.c2, pw_4.c3, pw_4.c4, pw_4.c5⟩ | with_reducible exact ⟨pl_5.c0, pl_5.c1, pl_5.c2, pl_5.c3, pl_5.c4, pl_5.c5, pw_5.c0, pw_5.c1, pw_5.c2, pw_5.c3, pw_5.c4, pw_5.c5⟩ | with_reducible exact ⟨pl_6.c0, pl_6.c1, pl_6.c2, pl_6.c3, pl_6.c4, pl_6.c5, pw_6.c0, pw_6.c1, pw_6.c2, pw_6.c3, pw_6.c4, pw_6.c5⟩ | fail)
      (first
        | (go_at_call 23; (with_reducible refine (qMul _ _ (Lb + La + 2) (Ls + La + 2) _ _ _ (by have := HLa.out; have := HLb.out; have := HLs.out; omega) (by have := HLa.out; have := HLb.out; have := HLs.out; omega) f1x_3.q f2y_3.q).mono ?_); rintro e w7 ⟨m3, o3, n3, c3, p3, k3, d3, rfl, f3_0, hb7⟩; have hB_4 := hB_3.trans (hb7.mono hB_3.size); have fax_4 := fax_3.below hb7; have fay_4 := fay_3.below hb7; have fbx_4 := fbx_3.below hb7; have fby_4 := fby_3.below hb7; have fsx_4 := fsx_3.below hb7; have fsy_4 := fsy_3.below hb7; have f1x_4 := f1x_3.below hb7; have f1y_4 := f1y_3.below hb7; have f2x_4 := f2x_3.below hb7; have f2y_4 := f2y_3.below hb7; have pl_4 := pl_3.below hb7; have pw_4 := pw_3.below hb7; clear hb7 hB_3 fax_3 fay_3 fbx_3 fby_3 fsx_3 fsy_3 f1x_3 f1y_3 f2x_3 f2y_3 pl_3 pw_3)
        | (go_at_call 23; (with_reducible refine (qMul _ _ (Lb + La + 2) (Ls + La + 2) _ _ _ (by have := HLa.out; have := HLb.out; have := HLs.out; omega) (by have := HLa.out; have := HLb.out; have := HLs.out; omega) f1y_4.q f2x_4.q).mono ?_); rintro e w8 ⟨m4, o4, n4, c4, p4, k4, d4, rfl, f4_0, hb8⟩; have hB_5 := hB_4.trans (hb8.mono hB_4.size); have fax_5 := fax_4.below hb8; have fay_5 := fay_4.below hb8; have fbx_5 := fbx_4.below hb8; have fby_5 := fby_4.below hb8; have fsx_5 := fsx_4.below hb8; have fsy_5 := fsy_4.below hb8; have f1x_5 := f1x_4.below hb8; have f1y_5 := f1y_4.below hb8; have f2x_5 := f2x_4.below hb8; have f2y_5 := f2y_4.below hb8; have pl_5 := pl_4.below hb8; have pw_5 := pw_4.below hb8; have f3_1 := f3_0.below hb8; clear hb8 hB_4 fax_4 fay_4 fbx_4 fby_4 fsx_4 fsy_4 f1x_4 f1y_4 f2x_4 f2y_4 pl_4 pw_4 f3_0)
        | (go_at_call 25; (with_reducible refine (qCmp _ _ ((Lb + La + 2) + (Ls + La + 2) + 2) ((Lb + La + 2) + (Ls + La + 2) + 2) _ _ _ (by have := HLa.out; have := HLb.out; have := HLs.out; omega) (by have := HLa.out; have := HLb.out; have := HLs.out; omega) f3_1.q f4_0.q d H.out).mono ?_); rintro e w9 ⟨rfl, hb9⟩; have hB_6 := hB_5.trans (hb9.mono hB_5.size); have fax_6 := fax_5.below hb9; have fay_6 := fay_5.below hb9; have fbx_6 := fbx_5.below hb9; have fby_6 := fby_5.below hb9; have fsx_6 := fsx_5.below hb9; have fsy_6 := fsy_5.below hb9; have f1x_6 := f1x_5.below hb9; have f1y_6 := f1y_5.below hb9; have f2x_6 := f2x_5.below hb9; have f2y_6 := f2y_5.below hb9; have pl_6 := pl_5.below hb9; have pw_6 := pw_5.below hb9; have f3_2 := f3_1.below hb9; have f4_1 := f4_0.below hb9; clear hb9 hB_5 fax_5 fay_5 fbx_5 fby_5 fsx_5 fsy_5 f1x_5 f1y_5 f2x_5 f2y_5 pl_5 pw_5 f3_1 f4_0))
    go_wp2
    go_ret
    exact ⟨rfl, hB_6⟩
  · right
    refine ⟨?_, fun i hi => ?_⟩
    · clear zF F2 F5 F6 F7 nq6_7
      cases lb2
      · exact ready_of 2 _ rfl rfl (by kernel_rfl)
      cases lb5
      · exact ready_of 5 _ rfl rfl (by kernel_rfl)
      cases lb6
      · exact ready_of 6 _ rfl rfl (by kernel_rfl)
      cases lb7
      · exact ready_of 7 _ rfl rfl (by kernel_rfl)
      exact absurd ⟨rfl, rfl, rfl, rfl⟩ hL
    have hd : (lb2 = false ∧ i = 2) ∨ (lb5 = false ∧ lb2 = true ∧ i = 5) ∨ (lb6 = false ∧ i = 6) ∨ (lb7 = false ∧ i = 7) := by
      have hin := ready_lt hi
      obtain rfl | rfl | rfl | rfl | rfl | rfl | rfl | rfl | rfl | rfl : i = 0 ∨ i = 1 ∨ i = 2 ∨ i = 3 ∨ i = 4 ∨ i = 5 ∨ i = 6 ∨ i = 7 ∨ i = 8 ∨ i = 9 := by have hin' : i < 10 := hin; omega
      · exact absurd (ready_off hi) (fun h => Bool.noConfusion (show true = false from h))
      · exact absurd (ready_off hi) (fun h => Bool.noConfusion (show true = false from h))
      · exact .inl ⟨ready_off hi, rfl⟩
      · exact absurd (ready_off hi) (fun h => Bool.noConfusion (show true = false from h))
      · exact absurd (ready_off hi) (fun h => Bool.noConfusion (show true = false from h))
      · exact .inr (.inl ⟨ready_off hi, ready_dep (d := 2) hi (by kernel_rfl), rfl⟩)
      · exact .inr (.inr (.inl ⟨ready_off hi, rfl⟩))
      · exact .inr (.inr (.inr (⟨ready_off hi, rfl⟩)))
      · have k6 : lb6 = true := ready_dep (d := 6) hi (by kernel_rfl); have k2 : lb2 = true := ready_dep (d := 2) hi (by kernel_rfl); have k5 : lb5 = true := ready_dep (d := 5) hi (by kernel_rfl); have k7 : lb7 = true := ready_dep (d := 7) hi (by kernel_rfl)
        exact absurd ⟨k2, k5, k6, k7⟩ hL
      · exact absurd (ready_dep (d := 8) hi (by kernel_rfl)) (fun h => Bool.noConfusion (show false = true from h))
    clear hi hL
    rcases hd with ⟨rfl, rfl⟩ | ⟨rfl, rfl, rfl⟩ | ⟨rfl, rfl⟩ | ⟨rfl, rfl⟩
    · obtain ⟨-, fax_0, fay_0, fbx_0, fby_0, -, -, -, -, -, -⟩ := (hFFq _).1 zF
      refine step_of 2 ?_ ?_ (fun K hK => ?_)
      rotate_left 1
      · simp only [List.getElem?_toArray, List.getElem?_cons_succ, List.getElem?_cons_zero]; exact rfl
      rw [HAq.out]
      try simp only [Act.put]
      try simp only [List.setIfInBounds_toArray, List.set_cons_zero, List.set_cons_succ]
      go_simp
      refine (sAcross_any La axq ayq Lb bxq byq _ (by have := HLa.out; have := HLb.out; have := HLs.out; omega) (by have := HLa.out; have := HLb.out; have := HLs.out; omega) fax_0 fay_0 fbx_0 fby_0).mono ?_
      rintro e w10 ⟨m1x, o1x, n1x, c1x, p1x, k1x, d1x, m1y, o1y, n1y, c1y, p1y, k1y, d1y, rfl, f1x_0, f1y_0, hb⟩
      go_wp2_with fail
      refine hK.out _ _ (sFq (cFq zF hb)) ?_
      exact (hIVq _ _ _).2 ⟨true, lb5, lb6, lb7, (.agg #[.bool m1x, .slice o1x n1x c1x, .slice p1x k1x d1x, .bool m1y, .slice o1y n1y c1y, .slice p1y k1y d1y]), lv5, lv6, lv7, m1x, o1x, n1x, c1x, p1x, k1x, d1x, m1y, o1y, n1y, c1y, p1y, k1y, d1y, m2x, o2x, n2x, c2x, p2x, k2x, d2x, m2y, o2y, n2y, c2y, p2y, k2y, d2y, gpl, gpw, rfl, (by simp only [HAq.out, Act.put, List.setIfInBounds_toArray, List.set_cons_zero, List.set_cons_succ]), (cFq zF hb), (fun _ => ⟨rfl, f1x_0, f1y_0⟩), (fun h => absurd (dp5_2 h) (by decide)), (fun h => ⟨(F6 h).1, (F6 h).2.1.below hb, (F6 h).2.2⟩), (fun h => ⟨(F7 h).1, (F7 h).2.1.below hb, (F7 h).2.2⟩), (fun _ => rfl), nq6_7⟩
    · obtain ⟨rfl, f1x_0, f1y_0⟩ := F2 rfl
      clear F2
      obtain ⟨-, fax_0, fay_0, -, -, fsx_0, fsy_0, -, -, -, -⟩ := (hFFq _).1 zF
      refine step_of 5 ?_ ?_ (fun K hK => ?_)
      rotate_left 1
      · simp only [List.getElem?_toArray, List.getElem?_cons_succ, List.getElem?_cons_zero]; exact rfl
      rw [HAq.out]
      try simp only [Act.put]
      try simp only [List.setIfInBounds_toArray, List.set_cons_zero, List.set_cons_succ]
      go_simp
      refine (sAcross_any La axq ayq Ls sxq syq _ (by have := HLa.out; have := HLb.out; have := HLs.out; omega) (by have := HLa.out; have := HLb.out; have := HLs.out; omega) fax_0 fay_0 fsx_0 fsy_0).mono ?_
      rintro e w11 ⟨m2x, o2x, n2x, c2x, p2x, k2x, d2x, m2y, o2y, n2y, c2y, p2y, k2y, d2y, rfl, f2x_0, f2y_0, hb⟩
      go_wp2_with fail
      refine hK.out _ _ (sFq (cFq zF hb)) ?_
      exact (hIVq _ _ _).2 ⟨true, true, lb6, lb7, _, (.agg #[.bool m2x, .slice o2x n2x c2x, .slice p2x k2x d2x, .bool m2y, .slice o2y n2y c2y, .slice p2y k2y d2y]), lv6, lv7, m1x, o1x, n1x, c1x, p1x, k1x, d1x, m1y, o1y, n1y, c1y, p1y, k1y, d1y, m2x, o2x, n2x, c2x, p2x, k2x, d2x, m2y, o2y, n2y, c2y, p2y, k2y, d2y, gpl, gpw, rfl, (by simp only [HAq.out, Act.put, List.setIfInBounds_toArray, List.set_cons_zero, List.set_cons_succ]), (cFq zF hb), (fun _ => ⟨rfl, f1x_0.below hb, f1y_0.below hb⟩), (fun _ => ⟨rfl, f2x_0, f2y_0⟩), (fun h => ⟨(F6 h).1, (F6 h).2.1.below hb, (F6 h).2.2⟩), (fun h => ⟨(F7 h).1, (F7 h).2.1.below hb, (F7 h).2.2⟩), (fun _ => rfl), nq6_7⟩
    · refine step_of 6 ?_ ?_ (fun K hK => ?_)
      rotate_left 1
      · simp only [List.getElem?_toArray, List.getElem?_cons_succ, List.getElem?_cons_zero]; exact rfl
      rw [HAq.out]
      try simp only [Act.put]
      try simp only [List.setIfInBounds_toArray, List.set_cons_zero, List.set_cons_succ]
      go_simp
      have hgn := mFq zF
      have hq7 : lb7 = true → gpw < w4.heap.size := fun h => (F7 h).2.1.lt
      obtain ⟨wn, hwn, pl_0, hb, -⟩ := new_box w4 _ rfl [.bool false, .slice none 0 0, .slice none 0 0, .bool false, .slice none 0 0, .slice none 0 0] 33
      rw [hwn]
      refine hK.out _ _ (sFq (cFq zF hb)) ?_
      exact (hIVq _ _ _).2 ⟨lb2, lb5, true, lb7, lv2, lv5, (.pointer (some ⟨w4.heap.size, 0, none⟩)), lv7, m1x, o1x, n1x, c1x, p1x, k1x, d1x, m1y, o1y, n1y, c1y, p1y, k1y, d1y, m2x, o2x, n2x, c2x, p2x, k2x, d2x, m2y, o2y, n2y, c2y, p2y, k2y, d2y, w4.heap.size, gpw, rfl, (by simp only [HAq.out, Act.put, List.setIfInBounds_toArray, List.set_cons_zero, List.set_cons_succ]), (cFq zF hb), (fun h => ⟨(F2 h).1, (F2 h).2.1.below hb, (F2 h).2.2.below hb⟩), (fun h => ⟨(F5 h).1, (F5 h).2.1.below hb, (F5 h).2.2.below hb⟩), (fun _ => ⟨rfl, pl_0, hgn⟩), (fun h => ⟨(F7 h).1, (F7 h).2.1.below hb, (F7 h).2.2⟩), dp5_2, (fun _ h => by have := hq7 h; omega)⟩
    · refine step_of 7 ?_ ?_ (fun K hK => ?_)
      rotate_left 1
      · simp only [List.getElem?_toArray, List.getElem?_cons_succ, List.getElem?_cons_zero]; exact rfl
      rw [HAq.out]
      try simp only [Act.put]
      try simp only [List.setIfInBounds_toArray, List.set_cons_zero, List.set_cons_succ]
      go_simp
      have hgn := mFq zF
      have hq6 : lb6 = true → gpl < w4.heap.size := fun h => (F6 h).2.1.lt
      obtain ⟨wn, hwn, pw_0, hb, -⟩ := new_box w4 _ rfl [.bool false, .slice none 0 0, .slice none 0 0, .bool false, .slice none 0 0, .slice none 0 0] 33
      rw [hwn]
      refine hK.out _ _ (sFq (cFq zF hb)) ?_
      exact (hIVq _ _ _).2 ⟨lb2, lb5, lb6, true, lv2, lv5, lv6, (.pointer (some ⟨w4.heap.size, 0, none⟩)), m1x, o1x, n1x, c1x, p1x, k1x, d1x, m1y, o1y, n1y, c1y, p1y, k1y, d1y, m2x, o2x, n2x, c2x, p2x, k2x, d2x, m2y, o2y, n2y, c2y, p2y, k2y, d2y, gpl, w4.heap.size, rfl, (by simp only [HAq.out, Act.put, List.setIfInBounds_toArray, List.set_cons_zero, List.set_cons_succ]), (cFq zF hb), (fun h => ⟨(F2 h).1, (F2 h).2.1.below hb, (F2 h).2.2.below hb⟩), (fun h => ⟨(F5 h).1, (F5 h).2.1.below hb, (F5 h).2.2.below hb⟩), (fun h => ⟨(F6 h).1, (F6 h).2.1.below hb, (F6 h).2.2⟩), (fun _ => ⟨rfl, pw_0, hgn⟩), dp5_2, (fun h _ => by have := hq6 h; omega)⟩
set_option maxHeartbeats 4000000 in
theorem sWithin_w {sm : Bool} {so : Option Addr} {sn sc : Nat} {sp : Option Addr} {sk sd : Nat} {am : Bool} {ao : Option Addr} {an ac : Nat} {ap : Option Addr} {ak ad : Nat} {bm : Bool} {bo : Option Addr} {bn bc : Nat} {bp : Option Addr} {bk bd : Nat} (Ls La Lb : Nat) (sq aq bq : Rat) (c d v : Int) (q : Bool) (w : World) (hLs : Ls ≤ 1000000) (hLa : La ≤ 1000000) (hLb : Lb ≤ 1000000) (fs_0 : FQ w (.agg #[.bool sm, .slice so sn sc, .slice sp sk sd]) Ls sq) (fa_0 : FQ w (.agg #[.bool am, .slice ao an ac, .slice ap ak ad]) La aq) (fb_0 : FQ w (.agg #[.bool bm, .slice bo bn bc, .slice bp bk bd]) Lb bq) (hc : qcmp sq aq = c) (hd : qcmp sq bq = d) (E1 : IntKind.i64.wrap (c * d) = v) (E2 : decide (v ≤ 0) = q) :
    Calls Try.prog 60 #[.agg #[.bool sm, .slice so sn sc, .slice sp sk sd], .agg #[.bool am, .slice ao an ac, .slice ap ak ad], .agg #[.bool bm, .slice bo bn bc, .slice bp bk bd]] w fun e w' => e = .returned (.bool q) ∧ Below w.heap.size w w' := by
  have hB_0 := Below.refl w.heap.size w
  have HLs := Lib.hid hLs; have HLa := Lib.hid hLa; have HLb := Lib.hid hLb
  clear hLs hLa hLb
  have HC := Lib.hid hc; have HD := Lib.hid hd; clear hc hd
  obtain ⟨w1, hw1, ps_0, hb1, hs1⟩ := new_box w (w.heap.size) rfl [.bool sm, .slice so sn sc, .slice sp sk sd] 31
  have hb1' : Below w.heap.size w w1 := hb1.mono (by omega)
  clear hb1
  have hB_1 := hB_0.trans (hb1'.mono hB_0.size)
  have fs_1 := fs_0.below hb1'
  have fa_1 := fa_0.below hb1'
  have fb_1 := fb_0.below hb1'
  clear hb1' hB_0 fs_0 fa_0 fb_0
  obtain ⟨w2, hw2, pa_0, hb2, hs2⟩ := new_box w1 (w.heap.size + 1) hs1 [.bool am, .slice ao an ac, .slice ap ak ad] 31
  have hb2' : Below w1.heap.size w1 w2 := hb2.mono (by omega)
  clear hb2
  have hB_2 := hB_1.trans (hb2'.mono hB_1.size)
  have fs_2 := fs_1.below hb2'
  have fa_2 := fa_1.below hb2'
  have fb_2 := fb_1.below hb2'
  have ps_1 := ps_0.below hb2'
  clear hb2' hB_1 fs_1 fa_1 fb_1 ps_0
  obtain ⟨w3, hw3, pb_0, hb3, hs3⟩ := new_box w2 (w.heap.size + 1 + 1) hs2 [.bool bm, .slice bo bn bc, .slice bp bk bd] 31
  have hb3' : Below w2.heap.size w2 w3 := hb3.mono (by omega)
  clear hb3
  have hB_3 := hB_2.trans (hb3'.mono hB_2.size)
  have fs_3 := fs_2.below hb3'
  have fa_3 := fa_2.below hb3'
  have fb_3 := fb_2.below hb3'
  have ps_2 := ps_1.below hb3'
  have pa_1 := pa_0.below hb3'
  clear hb3' hB_2 fs_2 fa_2 fb_2 ps_1 pa_0
  go_enter Try.func60, Try.ntmps60
  have e1 := E1; have e2 := E2; clear E1 E2
  go_wp2
  have hB_4 := hB_3.drew'
  have fs_4 := fs_3.drew
  have fa_4 := fa_3.drew
  have fb_4 := fb_3.drew
  have ps_3 := ps_2.drew
  have pa_2 := pa_1.drew
  have pb_1 := pb_0.drew
  clear hB_3 fs_3 fa_3 fb_3 ps_2 pa_1 pb_0
  go_region_held3 (fun w' => w'.cell? ⟨w.heap.size, 0, none⟩ = some (.bool sm) ∧ w'.cell? ⟨w.heap.size, 1, none⟩ = some (.slice so sn sc) ∧ w'.cell? ⟨w.heap.size, 2, none⟩ = some (.slice sp sk sd) ∧ w'.cell? ⟨w.heap.size + 1, 0, none⟩ = some (.bool am) ∧ w'.cell? ⟨w.heap.size + 1, 1, none⟩ = some (.slice ao an ac) ∧ w'.cell? ⟨w.heap.size + 1, 2, none⟩ = some (.slice ap ak ad) ∧ w'.cell? ⟨w.heap.size + 1 + 1, 0, none⟩ = some (.bool bm) ∧ w'.cell? ⟨w.heap.size + 1 + 1, 1, none⟩ = some (.slice bo bn bc) ∧ w'.cell? ⟨w.heap.size + 1 + 1, 2, none⟩ = some (.slice bp bk bd))
    (first | with_reducible exact ⟨ps_3.c0, ps_3.c1, ps_3.c2, pa_2.c0, pa_2.c1, pa_2.c2, pb_1.c0, pb_1.c1, pb_1.c2⟩ | with_reducible exact ⟨ps_4.c0, ps_4.c1, ps_4.c2, pa_3.c0, pa_3.c1, pa_3.c2, pb_2.c0, pb_2.c1, pb_2.c2⟩ | with_reducible exact ⟨ps_5.c0, ps_5.c1, ps_5.c2, pa_4.c0, pa_4.c1, pa_4.c2, pb_3.c0, pb_3.c1, pb_3.c2⟩ | fail)
    (first
      | (go_at_call 25; (with_reducible refine (qCmp _ _ Ls La sq aq _ (by have := HLa.out; have := HLb.out; have := HLs.out; omega) (by have := HLa.out; have := HLb.out; have := HLs.out; omega) fs_4 fa_4 c HC.out).mono ?_); rintro e w4 ⟨rfl, hb4⟩; have hB_5 := hB_4.trans (hb4.mono hB_4.size); have fs_5 := fs_4.below hb4; have fa_5 := fa_4.below hb4; have fb_5 := fb_4.below hb4; have ps_4 := ps_3.below hb4; have pa_3 := pa_2.below hb4; have pb_2 := pb_1.below hb4; clear hb4 hB_4 fs_4 fa_4 fb_4 ps_3 pa_2 pb_1)
      | (go_at_call 25; (with_reducible refine (qCmp _ _ Ls Lb sq bq _ (by have := HLa.out; have := HLb.out; have := HLs.out; omega) (by have := HLa.out; have := HLb.out; have := HLs.out; omega) fs_5 fb_5 d HD.out).mono ?_); rintro e w5 ⟨rfl, hb5⟩; have hB_6 := hB_5.trans (hb5.mono hB_5.size); have fs_6 := fs_5.below hb5; have fa_6 := fa_5.below hb5; have fb_6 := fb_5.below hb5; have ps_5 := ps_4.below hb5; have pa_4 := pa_3.below hb5; have pb_3 := pb_2.below hb5; clear hb5 hB_5 fs_5 fa_5 fb_5 ps_4 pa_3 pb_2))
  go_wp2
  go_ret
  exact ⟨rfl, hB_6⟩
theorem qcmp_wrap (p q r s : Rat) : IntKind.i64.wrap (qcmp p q * qcmp r s) = qcmp p q * qcmp r s := by
  rcases qcmp_cases p q with ⟨_, h⟩ | ⟨_, h⟩ | ⟨_, h⟩ <;> rcases qcmp_cases r s with ⟨_, k⟩ | ⟨_, k⟩ | ⟨_, k⟩ <;> rw [h, k] <;> rfl
theorem sWithin_any {sm : Bool} {so : Option Addr} {sn sc : Nat} {sp : Option Addr} {sk sd : Nat} {am : Bool} {ao : Option Addr} {an ac : Nat} {ap : Option Addr} {ak ad : Nat} {bm : Bool} {bo : Option Addr} {bn bc : Nat} {bp : Option Addr} {bk bd : Nat} (Ls La Lb : Nat) (sq aq bq : Rat) (w : World) (hLs : Ls ≤ 1000000) (hLa : La ≤ 1000000) (hLb : Lb ≤ 1000000) (fs_0 : FQ w (.agg #[.bool sm, .slice so sn sc, .slice sp sk sd]) Ls sq) (fa_0 : FQ w (.agg #[.bool am, .slice ao an ac, .slice ap ak ad]) La aq) (fb_0 : FQ w (.agg #[.bool bm, .slice bo bn bc, .slice bp bk bd]) Lb bq) (q : Bool) (h : withinQ sq aq bq = q) :
    Calls Try.prog 60 #[.agg #[.bool sm, .slice so sn sc, .slice sp sk sd], .agg #[.bool am, .slice ao an ac, .slice ap ak ad], .agg #[.bool bm, .slice bo bn bc, .slice bp bk bd]] w fun e w' => e = .returned (.bool q) ∧ Below w.heap.size w w' :=
  sWithin_w Ls La Lb sq aq bq _ _ _ q w hLs hLa hLb fs_0 fa_0 fb_0 rfl rfl (qcmp_wrap _ _ _ _) h
end Go.Proofs.Ytkcfaddilknelaa
/- The calls of spot: Same, On. -/
namespace Go.Proofs.Ytkcfaddilknelaa
open Go.RowKit Go.MagM
set_option maxHeartbeats 4000000 in
theorem sSame_t {axm : Bool} {axo : Option Addr} {axn axc : Nat} {axp : Option Addr} {axk axd : Nat} {aym : Bool} {ayo : Option Addr} {ayn ayc : Nat} {ayp : Option Addr} {ayk ayd : Nat} {bxm : Bool} {bxo : Option Addr} {bxn bxc : Nat} {bxp : Option Addr} {bxk bxd : Nat} {bym : Bool} {byo : Option Addr} {byn byc : Nat} {byp : Option Addr} {byk byd : Nat} (La : Nat) (axq ayq : Rat) (Lb : Nat) (bxq byq : Rat) (w : World) (hLa : La ≤ 1000000) (hLb : Lb ≤ 1000000) (fax_0 : FQ w (.agg #[.bool axm, .slice axo axn axc, .slice axp axk axd]) La axq) (fay_0 : FQ w (.agg #[.bool aym, .slice ayo ayn ayc, .slice ayp ayk ayd]) La ayq) (fbx_0 : FQ w (.agg #[.bool bxm, .slice bxo bxn bxc, .slice bxp bxk bxd]) Lb bxq) (fby_0 : FQ w (.agg #[.bool bym, .slice byo byn byc, .slice byp byk byd]) Lb byq) (h : axq = bxq) (q : Bool) (h2 : ayq = byq ↔ q = true) :
    Calls Try.prog 17 #[.agg #[.bool axm, .slice axo axn axc, .slice axp axk axd, .bool aym, .slice ayo ayn ayc, .slice ayp ayk ayd], .agg #[.bool bxm, .slice bxo bxn bxc, .slice bxp bxk bxd, .bool bym, .slice byo byn byc, .slice byp byk byd]] w fun e w' => e = .returned (.bool q) ∧ Below w.heap.size w w' := by
  have hB_0 := Below.refl w.heap.size w
  have HLa := Lib.hid hLa; have HLb := Lib.hid hLb
  clear hLa hLb
  have H := Lib.hid h; have H2 := Lib.hid h2; clear h2
  clear h
  obtain ⟨w1, hw1, pa_0, hb1, hs1⟩ := new_box w (w.heap.size) rfl [.bool axm, .slice axo axn axc, .slice axp axk axd, .bool aym, .slice ayo ayn ayc, .slice ayp ayk ayd] 33
  have hb1' : Below w.heap.size w w1 := hb1.mono (by omega)
  clear hb1
  have hB_1 := hB_0.trans (hb1'.mono hB_0.size)
  have fax_1 := fax_0.below hb1'
  have fay_1 := fay_0.below hb1'
  have fbx_1 := fbx_0.below hb1'
  have fby_1 := fby_0.below hb1'
  clear hb1' hB_0 fax_0 fay_0 fbx_0 fby_0
  obtain ⟨w2, hw2, pb_0, hb2, hs2⟩ := new_box w1 (w.heap.size + 1) hs1 [.bool bxm, .slice bxo bxn bxc, .slice bxp bxk bxd, .bool bym, .slice byo byn byc, .slice byp byk byd] 33
  have hb2' : Below w1.heap.size w1 w2 := hb2.mono (by omega)
  clear hb2
  have hB_2 := hB_1.trans (hb2'.mono hB_1.size)
  have fax_2 := fax_1.below hb2'
  have fay_2 := fay_1.below hb2'
  have fbx_2 := fbx_1.below hb2'
  have fby_2 := fby_1.below hb2'
  have pa_1 := pa_0.below hb2'
  clear hb2' hB_1 fax_1 fay_1 fbx_1 fby_1 pa_0
  go_enter Try.func17, Try.ntmps17
  obtain ⟨pae0, pae1, pae2, pae3, pae4, pae5, pae6, pae7, pae8, pae9, pae10, pae11⟩ := pa_1.open6
  obtain ⟨pbe0, pbe1, pbe2, pbe3, pbe4, pbe5, pbe6, pbe7, pbe8, pbe9, pbe10, pbe11⟩ := pb_0.open6
  go_wp2_with fail
  refine (qSame _ _ La Lb axq bxq _ (by have := HLa.out; have := HLb.out; omega) (by have := HLa.out; have := HLb.out; omega) fax_2 fbx_2 true ⟨fun _ => rfl, fun _ => H.out⟩).mono ?_
  rintro e w3 ⟨rfl, hb3⟩
  clear pae0 pae1 pae2 pae3 pae4 pae5 pae6 pae7 pae8 pae9 pae10 pae11 pbe0 pbe1 pbe2 pbe3 pbe4 pbe5 pbe6 pbe7 pbe8 pbe9 pbe10 pbe11
  have hB_3 := hB_2.trans (hb3.mono hB_2.size)
  have fax_3 := fax_2.below hb3
  have fay_3 := fay_2.below hb3
  have fbx_3 := fbx_2.below hb3
  have fby_3 := fby_2.below hb3
  have pa_2 := pa_1.below hb3
  have pb_1 := pb_0.below hb3
  clear hb3 hB_2 fax_2 fay_2 fbx_2 fby_2 pa_1 pb_0
  obtain ⟨pae0, pae1, pae2, pae3, pae4, pae5, pae6, pae7, pae8, pae9, pae10, pae11⟩ := pa_2.open6
  obtain ⟨pbe0, pbe1, pbe2, pbe3, pbe4, pbe5, pbe6, pbe7, pbe8, pbe9, pbe10, pbe11⟩ := pb_1.open6
  go_wp2_with fail
  refine (qSame _ _ La Lb ayq byq _ (by have := HLa.out; have := HLb.out; omega) (by have := HLa.out; have := HLb.out; omega) fay_3 fby_3 q H2.out).mono ?_
  rintro e w4 ⟨rfl, hb4⟩
  clear pae0 pae1 pae2 pae3 pae4 pae5 pae6 pae7 pae8 pae9 pae10 pae11 pbe0 pbe1 pbe2 pbe3 pbe4 pbe5 pbe6 pbe7 pbe8 pbe9 pbe10 pbe11
  have hB_4 := hB_3.trans (hb4.mono hB_3.size)
  have fax_4 := fax_3.below hb4
  have fay_4 := fay_3.below hb4
  have fbx_4 := fbx_3.below hb4
  have fby_4 := fby_3.below hb4
  have pa_3 := pa_2.below hb4
  have pb_2 := pb_1.below hb4
  clear hb4 hB_3 fax_3 fay_3 fbx_3 fby_3 pa_2 pb_1
  obtain ⟨pae0, pae1, pae2, pae3, pae4, pae5, pae6, pae7, pae8, pae9, pae10, pae11⟩ := pa_3.open6
  obtain ⟨pbe0, pbe1, pbe2, pbe3, pbe4, pbe5, pbe6, pbe7, pbe8, pbe9, pbe10, pbe11⟩ := pb_2.open6
  go_wp2
  go_ret
  exact ⟨rfl, hB_4⟩
set_option maxHeartbeats 4000000 in
theorem sSame_f {axm : Bool} {axo : Option Addr} {axn axc : Nat} {axp : Option Addr} {axk axd : Nat} {aym : Bool} {ayo : Option Addr} {ayn ayc : Nat} {ayp : Option Addr} {ayk ayd : Nat} {bxm : Bool} {bxo : Option Addr} {bxn bxc : Nat} {bxp : Option Addr} {bxk bxd : Nat} {bym : Bool} {byo : Option Addr} {byn byc : Nat} {byp : Option Addr} {byk byd : Nat} (La : Nat) (axq ayq : Rat) (Lb : Nat) (bxq byq : Rat) (w : World) (hLa : La ≤ 1000000) (hLb : Lb ≤ 1000000) (fax_0 : FQ w (.agg #[.bool axm, .slice axo axn axc, .slice axp axk axd]) La axq) (fay_0 : FQ w (.agg #[.bool aym, .slice ayo ayn ayc, .slice ayp ayk ayd]) La ayq) (fbx_0 : FQ w (.agg #[.bool bxm, .slice bxo bxn bxc, .slice bxp bxk bxd]) Lb bxq) (fby_0 : FQ w (.agg #[.bool bym, .slice byo byn byc, .slice byp byk byd]) Lb byq) (h : axq ≠ bxq) :
    Calls Try.prog 17 #[.agg #[.bool axm, .slice axo axn axc, .slice axp axk axd, .bool aym, .slice ayo ayn ayc, .slice ayp ayk ayd], .agg #[.bool bxm, .slice bxo bxn bxc, .slice bxp bxk bxd, .bool bym, .slice byo byn byc, .slice byp byk byd]] w fun e w' => e = .returned (.bool false) ∧ Below w.heap.size w w' := by
  have hB_0 := Below.refl w.heap.size w
  have HLa := Lib.hid hLa; have HLb := Lib.hid hLb
  clear hLa hLb
  have H := Lib.hid h
  clear h
  obtain ⟨w1, hw1, pa_0, hb1, hs1⟩ := new_box w (w.heap.size) rfl [.bool axm, .slice axo axn axc, .slice axp axk axd, .bool aym, .slice ayo ayn ayc, .slice ayp ayk ayd] 33
  have hb1' : Below w.heap.size w w1 := hb1.mono (by omega)
  clear hb1
  have hB_1 := hB_0.trans (hb1'.mono hB_0.size)
  have fax_1 := fax_0.below hb1'
  have fay_1 := fay_0.below hb1'
  have fbx_1 := fbx_0.below hb1'
  have fby_1 := fby_0.below hb1'
  clear hb1' hB_0 fax_0 fay_0 fbx_0 fby_0
  obtain ⟨w2, hw2, pb_0, hb2, hs2⟩ := new_box w1 (w.heap.size + 1) hs1 [.bool bxm, .slice bxo bxn bxc, .slice bxp bxk bxd, .bool bym, .slice byo byn byc, .slice byp byk byd] 33
  have hb2' : Below w1.heap.size w1 w2 := hb2.mono (by omega)
  clear hb2
  have hB_2 := hB_1.trans (hb2'.mono hB_1.size)
  have fax_2 := fax_1.below hb2'
  have fay_2 := fay_1.below hb2'
  have fbx_2 := fbx_1.below hb2'
  have fby_2 := fby_1.below hb2'
  have pa_1 := pa_0.below hb2'
  clear hb2' hB_1 fax_1 fay_1 fbx_1 fby_1 pa_0
  go_enter Try.func17, Try.ntmps17
  obtain ⟨pae0, pae1, pae2, pae3, pae4, pae5, pae6, pae7, pae8, pae9, pae10, pae11⟩ := pa_1.open6
  obtain ⟨pbe0, pbe1, pbe2, pbe3, pbe4, pbe5, pbe6, pbe7, pbe8, pbe9, pbe10, pbe11⟩ := pb_0.open6
  go_wp2_with fail
  refine (qSame _ _ La Lb axq bxq _ (by have := HLa.out; have := HLb.out; omega) (by have := HLa.out; have := HLb.out; omega) fax_2 fbx_2 false ⟨fun k => absurd k H.out, fun k => by cases k⟩).mono ?_
  rintro e w3 ⟨rfl, hb3⟩
  clear pae0 pae1 pae2 pae3 pae4 pae5 pae6 pae7 pae8 pae9 pae10 pae11 pbe0 pbe1 pbe2 pbe3 pbe4 pbe5 pbe6 pbe7 pbe8 pbe9 pbe10 pbe11
  have hB_3 := hB_2.trans (hb3.mono hB_2.size)
  have fax_3 := fax_2.below hb3
  have fay_3 := fay_2.below hb3
  have fbx_3 := fbx_2.below hb3
  have fby_3 := fby_2.below hb3
  have pa_2 := pa_1.below hb3
  have pb_1 := pb_0.below hb3
  clear hb3 hB_2 fax_2 fay_2 fbx_2 fby_2 pa_1 pb_0
  obtain ⟨pae0, pae1, pae2, pae3, pae4, pae5, pae6, pae7, pae8, pae9, pae10, pae11⟩ := pa_2.open6
  obtain ⟨pbe0, pbe1, pbe2, pbe3, pbe4, pbe5, pbe6, pbe7, pbe8, pbe9, pbe10, pbe11⟩ := pb_1.open6
  go_wp2
  go_ret
  exact ⟨rfl, hB_3⟩
theorem sSame_any {axm : Bool} {axo : Option Addr} {axn axc : Nat} {axp : Option Addr} {axk axd : Nat} {aym : Bool} {ayo : Option Addr} {ayn ayc : Nat} {ayp : Option Addr} {ayk ayd : Nat} {bxm : Bool} {bxo : Option Addr} {bxn bxc : Nat} {bxp : Option Addr} {bxk bxd : Nat} {bym : Bool} {byo : Option Addr} {byn byc : Nat} {byp : Option Addr} {byk byd : Nat} (La : Nat) (axq ayq : Rat) (Lb : Nat) (bxq byq : Rat) (w : World) (hLa : La ≤ 1000000) (hLb : Lb ≤ 1000000) (fax_0 : FQ w (.agg #[.bool axm, .slice axo axn axc, .slice axp axk axd]) La axq) (fay_0 : FQ w (.agg #[.bool aym, .slice ayo ayn ayc, .slice ayp ayk ayd]) La ayq) (fbx_0 : FQ w (.agg #[.bool bxm, .slice bxo bxn bxc, .slice bxp bxk bxd]) Lb bxq) (fby_0 : FQ w (.agg #[.bool bym, .slice byo byn byc, .slice byp byk byd]) Lb byq) (q : Bool) (h : (axq = bxq ∧ ayq = byq) ↔ q = true) :
    Calls Try.prog 17 #[.agg #[.bool axm, .slice axo axn axc, .slice axp axk axd, .bool aym, .slice ayo ayn ayc, .slice ayp ayk ayd], .agg #[.bool bxm, .slice bxo bxn bxc, .slice bxp bxk bxd, .bool bym, .slice byo byn byc, .slice byp byk byd]] w fun e w' => e = .returned (.bool q) ∧ Below w.heap.size w w' := by
  by_cases hx : axq = bxq
  · exact sSame_t La axq ayq Lb bxq byq w hLa hLb fax_0 fay_0 fbx_0 fby_0 hx q ⟨fun k => h.1 ⟨hx, k⟩, fun k => (h.2 k).2⟩
  · have e : q = false := by cases q with
      | false => rfl
      | true => exact absurd (h.2 rfl).1 hx
    subst e
    exact sSame_f La axq ayq Lb bxq byq w hLa hLb fax_0 fay_0 fbx_0 fby_0 hx
set_option maxHeartbeats 4000000 in
theorem sOn_n {sxm : Bool} {sxo : Option Addr} {sxn sxc : Nat} {sxp : Option Addr} {sxk sxd : Nat} {sym : Bool} {syo : Option Addr} {syn syc : Nat} {syp : Option Addr} {syk syd : Nat} {axm : Bool} {axo : Option Addr} {axn axc : Nat} {axp : Option Addr} {axk axd : Nat} {aym : Bool} {ayo : Option Addr} {ayn ayc : Nat} {ayp : Option Addr} {ayk ayd : Nat} {bxm : Bool} {bxo : Option Addr} {bxn bxc : Nat} {bxp : Option Addr} {bxk bxd : Nat} {bym : Bool} {byo : Option Addr} {byn byc : Nat} {byp : Option Addr} {byk byd : Nat} (Ls : Nat) (sxq syq : Rat) (La : Nat) (axq ayq : Rat) (Lb : Nat) (bxq byq : Rat) (w : World) (hLs : Ls ≤ 1000000) (hLa : La ≤ 1000000) (hLb : Lb ≤ 1000000) (fsx_0 : FQ w (.agg #[.bool sxm, .slice sxo sxn sxc, .slice sxp sxk sxd]) Ls sxq) (fsy_0 : FQ w (.agg #[.bool sym, .slice syo syn syc, .slice syp syk syd]) Ls syq) (fax_0 : FQ w (.agg #[.bool axm, .slice axo axn axc, .slice axp axk axd]) La axq) (fay_0 : FQ w (.agg #[.bool aym, .slice ayo ayn ayc, .slice ayp ayk ayd]) La ayq) (fbx_0 : FQ w (.agg #[.bool bxm, .slice bxo bxn bxc, .slice bxp bxk bxd]) Lb bxq) (fby_0 : FQ w (.agg #[.bool bym, .slice byo byn byc, .slice byp byk byd]) Lb byq) (h1 : withinQ sxq axq bxq = false) :
    Calls Try.prog 26 #[.agg #[.bool sxm, .slice sxo sxn sxc, .slice sxp sxk sxd, .bool sym, .slice syo syn syc, .slice syp syk syd], .agg #[.bool axm, .slice axo axn axc, .slice axp axk axd, .bool aym, .slice ayo ayn ayc, .slice ayp ayk ayd], .agg #[.bool bxm, .slice bxo bxn bxc, .slice bxp bxk bxd, .bool bym, .slice byo byn byc, .slice byp byk byd]] w fun e w' => e = .returned (.bool false) ∧ Below w.heap.size w w' := by
  have hB_0 := Below.refl w.heap.size w
  have HLs := Lib.hid hLs; have HLa := Lib.hid hLa; have HLb := Lib.hid hLb
  clear hLs hLa hLb
  have H1 := Lib.hid h1
  clear h1
  obtain ⟨w1, hw1, ps_0, hb1, hs1⟩ := new_box w (w.heap.size) rfl [.bool sxm, .slice sxo sxn sxc, .slice sxp sxk sxd, .bool sym, .slice syo syn syc, .slice syp syk syd] 33
  have hb1' : Below w.heap.size w w1 := hb1.mono (by omega)
  clear hb1
  have hB_1 := hB_0.trans (hb1'.mono hB_0.size)
  have fsx_1 := fsx_0.below hb1'
  have fsy_1 := fsy_0.below hb1'
  have fax_1 := fax_0.below hb1'
  have fay_1 := fay_0.below hb1'
  have fbx_1 := fbx_0.below hb1'
  have fby_1 := fby_0.below hb1'
  clear hb1' hB_0 fsx_0 fsy_0 fax_0 fay_0 fbx_0 fby_0
  obtain ⟨w2, hw2, pa_0, hb2, hs2⟩ := new_box w1 (w.heap.size + 1) hs1 [.bool axm, .slice axo axn axc, .slice axp axk axd, .bool aym, .slice ayo ayn ayc, .slice ayp ayk ayd] 33
  have hb2' : Below w1.heap.size w1 w2 := hb2.mono (by omega)
  clear hb2
  have hB_2 := hB_1.trans (hb2'.mono hB_1.size)
  have fsx_2 := fsx_1.below hb2'
  have fsy_2 := fsy_1.below hb2'
  have fax_2 := fax_1.below hb2'
  have fay_2 := fay_1.below hb2'
  have fbx_2 := fbx_1.below hb2'
  have fby_2 := fby_1.below hb2'
  have ps_1 := ps_0.below hb2'
  clear hb2' hB_1 fsx_1 fsy_1 fax_1 fay_1 fbx_1 fby_1 ps_0
  obtain ⟨w3, hw3, pb_0, hb3, hs3⟩ := new_box w2 (w.heap.size + 1 + 1) hs2 [.bool bxm, .slice bxo bxn bxc, .slice bxp bxk bxd, .bool bym, .slice byo byn byc, .slice byp byk byd] 33
  have hb3' : Below w2.heap.size w2 w3 := hb3.mono (by omega)
  clear hb3
  have hB_3 := hB_2.trans (hb3'.mono hB_2.size)
  have fsx_3 := fsx_2.below hb3'
  have fsy_3 := fsy_2.below hb3'
  have fax_3 := fax_2.below hb3'
  have fay_3 := fay_2.below hb3'
  have fbx_3 := fbx_2.below hb3'
  have fby_3 := fby_2.below hb3'
  have ps_2 := ps_1.below hb3'
  have pa_1 := pa_0.below hb3'
  clear hb3' hB_2 fsx_2 fsy_2 fax_2 fay_2 fbx_2 fby_2 ps_1 pa_0
  go_enter Try.func26, Try.ntmps26
  obtain ⟨pse0, pse1, pse2, pse3, pse4, pse5, pse6, pse7, pse8, pse9, pse10, pse11⟩ := ps_2.open6
  obtain ⟨pae0, pae1, pae2, pae3, pae4, pae5, pae6, pae7, pae8, pae9, pae10, pae11⟩ := pa_1.open6
  obtain ⟨pbe0, pbe1, pbe2, pbe3, pbe4, pbe5, pbe6, pbe7, pbe8, pbe9, pbe10, pbe11⟩ := pb_0.open6
  go_wp2_with fail
  refine (sWithin_any Ls La Lb sxq axq bxq _ (by have := HLa.out; have := HLb.out; have := HLs.out; omega) (by have := HLa.out; have := HLb.out; have := HLs.out; omega) (by have := HLa.out; have := HLb.out; have := HLs.out; omega) fsx_3 fax_3 fbx_3 false H1.out).mono ?_
  rintro e w4 ⟨rfl, hb4⟩
  clear pse0 pse1 pse2 pse3 pse4 pse5 pse6 pse7 pse8 pse9 pse10 pse11 pae0 pae1 pae2 pae3 pae4 pae5 pae6 pae7 pae8 pae9 pae10 pae11 pbe0 pbe1 pbe2 pbe3 pbe4 pbe5 pbe6 pbe7 pbe8 pbe9 pbe10 pbe11
  have hB_4 := hB_3.trans (hb4.mono hB_3.size)
  have fsx_4 := fsx_3.below hb4
  have fsy_4 := fsy_3.below hb4
  have fax_4 := fax_3.below hb4
  have fay_4 := fay_3.below hb4
  have fbx_4 := fbx_3.below hb4
  have fby_4 := fby_3.below hb4
  have ps_3 := ps_2.below hb4
  have pa_2 := pa_1.below hb4
  have pb_1 := pb_0.below hb4
  clear hb4 hB_3 fsx_3 fsy_3 fax_3 fay_3 fbx_3 fby_3 ps_2 pa_1 pb_0
  obtain ⟨pse0, pse1, pse2, pse3, pse4, pse5, pse6, pse7, pse8, pse9, pse10, pse11⟩ := ps_3.open6
  obtain ⟨pae0, pae1, pae2, pae3, pae4, pae5, pae6, pae7, pae8, pae9, pae10, pae11⟩ := pa_2.open6
  obtain ⟨pbe0, pbe1, pbe2, pbe3, pbe4, pbe5, pbe6, pbe7, pbe8, pbe9, pbe10, pbe11⟩ := pb_1.open6
  go_wp2
  go_ret
  exact ⟨rfl, hB_4⟩
set_option maxHeartbeats 4000000 in
theorem sOn_tf {sxm : Bool} {sxo : Option Addr} {sxn sxc : Nat} {sxp : Option Addr} {sxk sxd : Nat} {sym : Bool} {syo : Option Addr} {syn syc : Nat} {syp : Option Addr} {syk syd : Nat} {axm : Bool} {axo : Option Addr} {axn axc : Nat} {axp : Option Addr} {axk axd : Nat} {aym : Bool} {ayo : Option Addr} {ayn ayc : Nat} {ayp : Option Addr} {ayk ayd : Nat} {bxm : Bool} {bxo : Option Addr} {bxn bxc : Nat} {bxp : Option Addr} {bxk bxd : Nat} {bym : Bool} {byo : Option Addr} {byn byc : Nat} {byp : Option Addr} {byk byd : Nat} (Ls : Nat) (sxq syq : Rat) (La : Nat) (axq ayq : Rat) (Lb : Nat) (bxq byq : Rat) (w : World) (hLs : Ls ≤ 1000000) (hLa : La ≤ 1000000) (hLb : Lb ≤ 1000000) (fsx_0 : FQ w (.agg #[.bool sxm, .slice sxo sxn sxc, .slice sxp sxk sxd]) Ls sxq) (fsy_0 : FQ w (.agg #[.bool sym, .slice syo syn syc, .slice syp syk syd]) Ls syq) (fax_0 : FQ w (.agg #[.bool axm, .slice axo axn axc, .slice axp axk axd]) La axq) (fay_0 : FQ w (.agg #[.bool aym, .slice ayo ayn ayc, .slice ayp ayk ayd]) La ayq) (fbx_0 : FQ w (.agg #[.bool bxm, .slice bxo bxn bxc, .slice bxp bxk bxd]) Lb bxq) (fby_0 : FQ w (.agg #[.bool bym, .slice byo byn byc, .slice byp byk byd]) Lb byq) (h1 : withinQ sxq axq bxq = true) (h2 : withinQ syq ayq byq = false) :
    Calls Try.prog 26 #[.agg #[.bool sxm, .slice sxo sxn sxc, .slice sxp sxk sxd, .bool sym, .slice syo syn syc, .slice syp syk syd], .agg #[.bool axm, .slice axo axn axc, .slice axp axk axd, .bool aym, .slice ayo ayn ayc, .slice ayp ayk ayd], .agg #[.bool bxm, .slice bxo bxn bxc, .slice bxp bxk bxd, .bool bym, .slice byo byn byc, .slice byp byk byd]] w fun e w' => e = .returned (.bool false) ∧ Below w.heap.size w w' := by
  have hB_0 := Below.refl w.heap.size w
  have HLs := Lib.hid hLs; have HLa := Lib.hid hLa; have HLb := Lib.hid hLb
  clear hLs hLa hLb
  have H1 := Lib.hid h1; have H2 := Lib.hid h2
  clear h1 h2
  obtain ⟨w1, hw1, ps_0, hb1, hs1⟩ := new_box w (w.heap.size) rfl [.bool sxm, .slice sxo sxn sxc, .slice sxp sxk sxd, .bool sym, .slice syo syn syc, .slice syp syk syd] 33
  have hb1' : Below w.heap.size w w1 := hb1.mono (by omega)
  clear hb1
  have hB_1 := hB_0.trans (hb1'.mono hB_0.size)
  have fsx_1 := fsx_0.below hb1'
  have fsy_1 := fsy_0.below hb1'
  have fax_1 := fax_0.below hb1'
  have fay_1 := fay_0.below hb1'
  have fbx_1 := fbx_0.below hb1'
  have fby_1 := fby_0.below hb1'
  clear hb1' hB_0 fsx_0 fsy_0 fax_0 fay_0 fbx_0 fby_0
  obtain ⟨w2, hw2, pa_0, hb2, hs2⟩ := new_box w1 (w.heap.size + 1) hs1 [.bool axm, .slice axo axn axc, .slice axp axk axd, .bool aym, .slice ayo ayn ayc, .slice ayp ayk ayd] 33
  have hb2' : Below w1.heap.size w1 w2 := hb2.mono (by omega)
  clear hb2
  have hB_2 := hB_1.trans (hb2'.mono hB_1.size)
  have fsx_2 := fsx_1.below hb2'
  have fsy_2 := fsy_1.below hb2'
  have fax_2 := fax_1.below hb2'
  have fay_2 := fay_1.below hb2'
  have fbx_2 := fbx_1.below hb2'
  have fby_2 := fby_1.below hb2'
  have ps_1 := ps_0.below hb2'
  clear hb2' hB_1 fsx_1 fsy_1 fax_1 fay_1 fbx_1 fby_1 ps_0
  obtain ⟨w3, hw3, pb_0, hb3, hs3⟩ := new_box w2 (w.heap.size + 1 + 1) hs2 [.bool bxm, .slice bxo bxn bxc, .slice bxp bxk bxd, .bool bym, .slice byo byn byc, .slice byp byk byd] 33
  have hb3' : Below w2.heap.size w2 w3 := hb3.mono (by omega)
  clear hb3
  have hB_3 := hB_2.trans (hb3'.mono hB_2.size)
  have fsx_3 := fsx_2.below hb3'
  have fsy_3 := fsy_2.below hb3'
  have fax_3 := fax_2.below hb3'
  have fay_3 := fay_2.below hb3'
  have fbx_3 := fbx_2.below hb3'
  have fby_3 := fby_2.below hb3'
  have ps_2 := ps_1.below hb3'
  have pa_1 := pa_0.below hb3'
  clear hb3' hB_2 fsx_2 fsy_2 fax_2 fay_2 fbx_2 fby_2 ps_1 pa_0
  go_enter Try.func26, Try.ntmps26
  obtain ⟨pse0, pse1, pse2, pse3, pse4, pse5, pse6, pse7, pse8, pse9, pse10, pse11⟩ := ps_2.open6
  obtain ⟨pae0, pae1, pae2, pae3, pae4, pae5, pae6, pae7, pae8, pae9, pae10, pae11⟩ := pa_1.open6
  obtain ⟨pbe0, pbe1, pbe2, pbe3, pbe4, pbe5, pbe6, pbe7, pbe8, pbe9, pbe10, pbe11⟩ := pb_0.open6
  go_wp2_with fail
  refine (sWithin_any Ls La Lb sxq axq bxq _ (by have := HLa.out; have := HLb.out; have := HLs.out; omega) (by have := HLa.out; have := HLb.out; have := HLs.out; omega) (by have := HLa.out; have := HLb.out; have := HLs.out; omega) fsx_3 fax_3 fbx_3 true H1.out).mono ?_
  rintro e w4 ⟨rfl, hb4⟩
  clear pse0 pse1 pse2 pse3 pse4 pse5 pse6 pse7 pse8 pse9 pse10 pse11 pae0 pae1 pae2 pae3 pae4 pae5 pae6 pae7 pae8 pae9 pae10 pae11 pbe0 pbe1 pbe2 pbe3 pbe4 pbe5 pbe6 pbe7 pbe8 pbe9 pbe10 pbe11
  have hB_4 := hB_3.trans (hb4.mono hB_3.size)
  have fsx_4 := fsx_3.below hb4
  have fsy_4 := fsy_3.below hb4
  have fax_4 := fax_3.below hb4
  have fay_4 := fay_3.below hb4
  have fbx_4 := fbx_3.below hb4
  have fby_4 := fby_3.below hb4
  have ps_3 := ps_2.below hb4
  have pa_2 := pa_1.below hb4
  have pb_1 := pb_0.below hb4
  clear hb4 hB_3 fsx_3 fsy_3 fax_3 fay_3 fbx_3 fby_3 ps_2 pa_1 pb_0
  obtain ⟨pse0, pse1, pse2, pse3, pse4, pse5, pse6, pse7, pse8, pse9, pse10, pse11⟩ := ps_3.open6
  obtain ⟨pae0, pae1, pae2, pae3, pae4, pae5, pae6, pae7, pae8, pae9, pae10, pae11⟩ := pa_2.open6
  obtain ⟨pbe0, pbe1, pbe2, pbe3, pbe4, pbe5, pbe6, pbe7, pbe8, pbe9, pbe10, pbe11⟩ := pb_1.open6
  go_wp2_with fail
  refine (sWithin_any Ls La Lb syq ayq byq _ (by have := HLa.out; have := HLb.out; have := HLs.out; omega) (by have := HLa.out; have := HLb.out; have := HLs.out; omega) (by have := HLa.out; have := HLb.out; have := HLs.out; omega) fsy_4 fay_4 fby_4 false H2.out).mono ?_
  rintro e w5 ⟨rfl, hb5⟩
  clear pse0 pse1 pse2 pse3 pse4 pse5 pse6 pse7 pse8 pse9 pse10 pse11 pae0 pae1 pae2 pae3 pae4 pae5 pae6 pae7 pae8 pae9 pae10 pae11 pbe0 pbe1 pbe2 pbe3 pbe4 pbe5 pbe6 pbe7 pbe8 pbe9 pbe10 pbe11
  have hB_5 := hB_4.trans (hb5.mono hB_4.size)
  have fsx_5 := fsx_4.below hb5
  have fsy_5 := fsy_4.below hb5
  have fax_5 := fax_4.below hb5
  have fay_5 := fay_4.below hb5
  have fbx_5 := fbx_4.below hb5
  have fby_5 := fby_4.below hb5
  have ps_4 := ps_3.below hb5
  have pa_3 := pa_2.below hb5
  have pb_2 := pb_1.below hb5
  clear hb5 hB_4 fsx_4 fsy_4 fax_4 fay_4 fbx_4 fby_4 ps_3 pa_2 pb_1
  obtain ⟨pse0, pse1, pse2, pse3, pse4, pse5, pse6, pse7, pse8, pse9, pse10, pse11⟩ := ps_4.open6
  obtain ⟨pae0, pae1, pae2, pae3, pae4, pae5, pae6, pae7, pae8, pae9, pae10, pae11⟩ := pa_3.open6
  obtain ⟨pbe0, pbe1, pbe2, pbe3, pbe4, pbe5, pbe6, pbe7, pbe8, pbe9, pbe10, pbe11⟩ := pb_2.open6
  go_wp2
  go_ret
  exact ⟨rfl, hB_5⟩
set_option maxHeartbeats 4000000 in
theorem sOn_tt {sxm : Bool} {sxo : Option Addr} {sxn sxc : Nat} {sxp : Option Addr} {sxk sxd : Nat} {sym : Bool} {syo : Option Addr} {syn syc : Nat} {syp : Option Addr} {syk syd : Nat} {axm : Bool} {axo : Option Addr} {axn axc : Nat} {axp : Option Addr} {axk axd : Nat} {aym : Bool} {ayo : Option Addr} {ayn ayc : Nat} {ayp : Option Addr} {ayk ayd : Nat} {bxm : Bool} {bxo : Option Addr} {bxn bxc : Nat} {bxp : Option Addr} {bxk bxd : Nat} {bym : Bool} {byo : Option Addr} {byn byc : Nat} {byp : Option Addr} {byk byd : Nat} (Ls : Nat) (sxq syq : Rat) (La : Nat) (axq ayq : Rat) (Lb : Nat) (bxq byq : Rat) (w : World) (hLs : Ls ≤ 1000000) (hLa : La ≤ 1000000) (hLb : Lb ≤ 1000000) (fsx_0 : FQ w (.agg #[.bool sxm, .slice sxo sxn sxc, .slice sxp sxk sxd]) Ls sxq) (fsy_0 : FQ w (.agg #[.bool sym, .slice syo syn syc, .slice syp syk syd]) Ls syq) (fax_0 : FQ w (.agg #[.bool axm, .slice axo axn axc, .slice axp axk axd]) La axq) (fay_0 : FQ w (.agg #[.bool aym, .slice ayo ayn ayc, .slice ayp ayk ayd]) La ayq) (fbx_0 : FQ w (.agg #[.bool bxm, .slice bxo bxn bxc, .slice bxp bxk bxd]) Lb bxq) (fby_0 : FQ w (.agg #[.bool bym, .slice byo byn byc, .slice byp byk byd]) Lb byq) (h1 : withinQ sxq axq bxq = true) (h2 : withinQ syq ayq byq = true) (d : Int) (q : Bool) (h3 : sideQ axq ayq bxq byq sxq syq = d) (h4 : (d == 0) = q) :
    Calls Try.prog 26 #[.agg #[.bool sxm, .slice sxo sxn sxc, .slice sxp sxk sxd, .bool sym, .slice syo syn syc, .slice syp syk syd], .agg #[.bool axm, .slice axo axn axc, .slice axp axk axd, .bool aym, .slice ayo ayn ayc, .slice ayp ayk ayd], .agg #[.bool bxm, .slice bxo bxn bxc, .slice bxp bxk bxd, .bool bym, .slice byo byn byc, .slice byp byk byd]] w fun e w' => e = .returned (.bool q) ∧ Below w.heap.size w w' := by
  have hB_0 := Below.refl w.heap.size w
  have HLs := Lib.hid hLs; have HLa := Lib.hid hLa; have HLb := Lib.hid hLb
  clear hLs hLa hLb
  have H1 := Lib.hid h1; have H2 := Lib.hid h2; have H3 := Lib.hid h3; have H4 := Lib.hid h4
  clear h1 h2 h3 h4
  have e4 := H4.out
  obtain ⟨w1, hw1, ps_0, hb1, hs1⟩ := new_box w (w.heap.size) rfl [.bool sxm, .slice sxo sxn sxc, .slice sxp sxk sxd, .bool sym, .slice syo syn syc, .slice syp syk syd] 33
  have hb1' : Below w.heap.size w w1 := hb1.mono (by omega)
  clear hb1
  have hB_1 := hB_0.trans (hb1'.mono hB_0.size)
  have fsx_1 := fsx_0.below hb1'
  have fsy_1 := fsy_0.below hb1'
  have fax_1 := fax_0.below hb1'
  have fay_1 := fay_0.below hb1'
  have fbx_1 := fbx_0.below hb1'
  have fby_1 := fby_0.below hb1'
  clear hb1' hB_0 fsx_0 fsy_0 fax_0 fay_0 fbx_0 fby_0
  obtain ⟨w2, hw2, pa_0, hb2, hs2⟩ := new_box w1 (w.heap.size + 1) hs1 [.bool axm, .slice axo axn axc, .slice axp axk axd, .bool aym, .slice ayo ayn ayc, .slice ayp ayk ayd] 33
  have hb2' : Below w1.heap.size w1 w2 := hb2.mono (by omega)
  clear hb2
  have hB_2 := hB_1.trans (hb2'.mono hB_1.size)
  have fsx_2 := fsx_1.below hb2'
  have fsy_2 := fsy_1.below hb2'
  have fax_2 := fax_1.below hb2'
  have fay_2 := fay_1.below hb2'
  have fbx_2 := fbx_1.below hb2'
  have fby_2 := fby_1.below hb2'
  have ps_1 := ps_0.below hb2'
  clear hb2' hB_1 fsx_1 fsy_1 fax_1 fay_1 fbx_1 fby_1 ps_0
  obtain ⟨w3, hw3, pb_0, hb3, hs3⟩ := new_box w2 (w.heap.size + 1 + 1) hs2 [.bool bxm, .slice bxo bxn bxc, .slice bxp bxk bxd, .bool bym, .slice byo byn byc, .slice byp byk byd] 33
  have hb3' : Below w2.heap.size w2 w3 := hb3.mono (by omega)
  clear hb3
  have hB_3 := hB_2.trans (hb3'.mono hB_2.size)
  have fsx_3 := fsx_2.below hb3'
  have fsy_3 := fsy_2.below hb3'
  have fax_3 := fax_2.below hb3'
  have fay_3 := fay_2.below hb3'
  have fbx_3 := fbx_2.below hb3'
  have fby_3 := fby_2.below hb3'
  have ps_2 := ps_1.below hb3'
  have pa_1 := pa_0.below hb3'
  clear hb3' hB_2 fsx_2 fsy_2 fax_2 fay_2 fbx_2 fby_2 ps_1 pa_0
  go_enter Try.func26, Try.ntmps26
  obtain ⟨pse0, pse1, pse2, pse3, pse4, pse5, pse6, pse7, pse8, pse9, pse10, pse11⟩ := ps_2.open6
  obtain ⟨pae0, pae1, pae2, pae3, pae4, pae5, pae6, pae7, pae8, pae9, pae10, pae11⟩ := pa_1.open6
  obtain ⟨pbe0, pbe1, pbe2, pbe3, pbe4, pbe5, pbe6, pbe7, pbe8, pbe9, pbe10, pbe11⟩ := pb_0.open6
  go_wp2_with fail
  refine (sWithin_any Ls La Lb sxq axq bxq _ (by have := HLa.out; have := HLb.out; have := HLs.out; omega) (by have := HLa.out; have := HLb.out; have := HLs.out; omega) (by have := HLa.out; have := HLb.out; have := HLs.out; omega) fsx_3 fax_3 fbx_3 true H1.out).mono ?_
  rintro e w4 ⟨rfl, hb4⟩
  clear pse0 pse1 pse2 pse3 pse4 pse5 pse6 pse7 pse8 pse9 pse10 pse11 pae0 pae1 pae2 pae3 pae4 pae5 pae6 pae7 pae8 pae9 pae10 pae11 pbe0 pbe1 pbe2 pbe3 pbe4 pbe5 pbe6 pbe7 pbe8 pbe9 pbe10 pbe11
  have hB_4 := hB_3.trans (hb4.mono hB_3.size)
  have fsx_4 := fsx_3.below hb4
  have fsy_4 := fsy_3.below hb4
  have fax_4 := fax_3.below hb4
  have fay_4 := fay_3.below hb4
  have fbx_4 := fbx_3.below hb4
  have fby_4 := fby_3.below hb4
  have ps_3 := ps_2.below hb4
  have pa_2 := pa_1.below hb4
  have pb_1 := pb_0.below hb4
  clear hb4 hB_3 fsx_3 fsy_3 fax_3 fay_3 fbx_3 fby_3 ps_2 pa_1 pb_0
  obtain ⟨pse0, pse1, pse2, pse3, pse4, pse5, pse6, pse7, pse8, pse9, pse10, pse11⟩ := ps_3.open6
  obtain ⟨pae0, pae1, pae2, pae3, pae4, pae5, pae6, pae7, pae8, pae9, pae10, pae11⟩ := pa_2.open6
  obtain ⟨pbe0, pbe1, pbe2, pbe3, pbe4, pbe5, pbe6, pbe7, pbe8, pbe9, pbe10, pbe11⟩ := pb_1.open6
  go_wp2_with fail
  refine (sWithin_any Ls La Lb syq ayq byq _ (by have := HLa.out; have := HLb.out; have := HLs.out; omega) (by have := HLa.out; have := HLb.out; have := HLs.out; omega) (by have := HLa.out; have := HLb.out; have := HLs.out; omega) fsy_4 fay_4 fby_4 true H2.out).mono ?_
  rintro e w5 ⟨rfl, hb5⟩
  clear pse0 pse1 pse2 pse3 pse4 pse5 pse6 pse7 pse8 pse9 pse10 pse11 pae0 pae1 pae2 pae3 pae4 pae5 pae6 pae7 pae8 pae9 pae10 pae11 pbe0 pbe1 pbe2 pbe3 pbe4 pbe5 pbe6 pbe7 pbe8 pbe9 pbe10 pbe11
  have hB_5 := hB_4.trans (hb5.mono hB_4.size)
  have fsx_5 := fsx_4.below hb5
  have fsy_5 := fsy_4.below hb5
  have fax_5 := fax_4.below hb5
  have fay_5 := fay_4.below hb5
  have fbx_5 := fbx_4.below hb5
  have fby_5 := fby_4.below hb5
  have ps_4 := ps_3.below hb5
  have pa_3 := pa_2.below hb5
  have pb_2 := pb_1.below hb5
  clear hb5 hB_4 fsx_4 fsy_4 fax_4 fay_4 fbx_4 fby_4 ps_3 pa_2 pb_1
  obtain ⟨pse0, pse1, pse2, pse3, pse4, pse5, pse6, pse7, pse8, pse9, pse10, pse11⟩ := ps_4.open6
  obtain ⟨pae0, pae1, pae2, pae3, pae4, pae5, pae6, pae7, pae8, pae9, pae10, pae11⟩ := pa_3.open6
  obtain ⟨pbe0, pbe1, pbe2, pbe3, pbe4, pbe5, pbe6, pbe7, pbe8, pbe9, pbe10, pbe11⟩ := pb_2.open6
  go_wp2_with fail
  refine (sSide_any La axq ayq Lb bxq byq Ls sxq syq d _ (by have := HLa.out; have := HLb.out; have := HLs.out; omega) (by have := HLa.out; have := HLb.out; have := HLs.out; omega) (by have := HLa.out; have := HLb.out; have := HLs.out; omega) fax_5 fay_5 fbx_5 fby_5 fsx_5 fsy_5 H3.out).mono ?_
  rintro e w6 ⟨rfl, hb6⟩
  clear pse0 pse1 pse2 pse3 pse4 pse5 pse6 pse7 pse8 pse9 pse10 pse11 pae0 pae1 pae2 pae3 pae4 pae5 pae6 pae7 pae8 pae9 pae10 pae11 pbe0 pbe1 pbe2 pbe3 pbe4 pbe5 pbe6 pbe7 pbe8 pbe9 pbe10 pbe11
  have hB_6 := hB_5.trans (hb6.mono hB_5.size)
  have fsx_6 := fsx_5.below hb6
  have fsy_6 := fsy_5.below hb6
  have fax_6 := fax_5.below hb6
  have fay_6 := fay_5.below hb6
  have fbx_6 := fbx_5.below hb6
  have fby_6 := fby_5.below hb6
  have ps_5 := ps_4.below hb6
  have pa_4 := pa_3.below hb6
  have pb_3 := pb_2.below hb6
  clear hb6 hB_5 fsx_5 fsy_5 fax_5 fay_5 fbx_5 fby_5 ps_4 pa_3 pb_2
  obtain ⟨pse0, pse1, pse2, pse3, pse4, pse5, pse6, pse7, pse8, pse9, pse10, pse11⟩ := ps_5.open6
  obtain ⟨pae0, pae1, pae2, pae3, pae4, pae5, pae6, pae7, pae8, pae9, pae10, pae11⟩ := pa_4.open6
  obtain ⟨pbe0, pbe1, pbe2, pbe3, pbe4, pbe5, pbe6, pbe7, pbe8, pbe9, pbe10, pbe11⟩ := pb_3.open6
  go_wp2
  go_ret
  exact ⟨rfl, hB_6⟩
theorem sOn_any {sxm : Bool} {sxo : Option Addr} {sxn sxc : Nat} {sxp : Option Addr} {sxk sxd : Nat} {sym : Bool} {syo : Option Addr} {syn syc : Nat} {syp : Option Addr} {syk syd : Nat} {axm : Bool} {axo : Option Addr} {axn axc : Nat} {axp : Option Addr} {axk axd : Nat} {aym : Bool} {ayo : Option Addr} {ayn ayc : Nat} {ayp : Option Addr} {ayk ayd : Nat} {bxm : Bool} {bxo : Option Addr} {bxn bxc : Nat} {bxp : Option Addr} {bxk bxd : Nat} {bym : Bool} {byo : Option Addr} {byn byc : Nat} {byp : Option Addr} {byk byd : Nat} (Ls : Nat) (sxq syq : Rat) (La : Nat) (axq ayq : Rat) (Lb : Nat) (bxq byq : Rat) (w : World) (hLs : Ls ≤ 1000000) (hLa : La ≤ 1000000) (hLb : Lb ≤ 1000000) (fsx_0 : FQ w (.agg #[.bool sxm, .slice sxo sxn sxc, .slice sxp sxk sxd]) Ls sxq) (fsy_0 : FQ w (.agg #[.bool sym, .slice syo syn syc, .slice syp syk syd]) Ls syq) (fax_0 : FQ w (.agg #[.bool axm, .slice axo axn axc, .slice axp axk axd]) La axq) (fay_0 : FQ w (.agg #[.bool aym, .slice ayo ayn ayc, .slice ayp ayk ayd]) La ayq) (fbx_0 : FQ w (.agg #[.bool bxm, .slice bxo bxn bxc, .slice bxp bxk bxd]) Lb bxq) (fby_0 : FQ w (.agg #[.bool bym, .slice byo byn byc, .slice byp byk byd]) Lb byq) (q : Bool) (h : onQ sxq syq axq ayq bxq byq = q) :
    Calls Try.prog 26 #[.agg #[.bool sxm, .slice sxo sxn sxc, .slice sxp sxk sxd, .bool sym, .slice syo syn syc, .slice syp syk syd], .agg #[.bool axm, .slice axo axn axc, .slice axp axk axd, .bool aym, .slice ayo ayn ayc, .slice ayp ayk ayd], .agg #[.bool bxm, .slice bxo bxn bxc, .slice bxp bxk bxd, .bool bym, .slice byo byn byc, .slice byp byk byd]] w fun e w' => e = .returned (.bool q) ∧ Below w.heap.size w w' := by
  subst h; unfold onQ
  cases h1 : withinQ sxq axq bxq with
  | false => exact sOn_n Ls sxq syq La axq ayq Lb bxq byq w hLs hLa hLb fsx_0 fsy_0 fax_0 fay_0 fbx_0 fby_0 h1
  | true =>
    cases h2 : withinQ syq ayq byq with
    | false => exact sOn_tf Ls sxq syq La axq ayq Lb bxq byq w hLs hLa hLb fsx_0 fsy_0 fax_0 fay_0 fbx_0 fby_0 h1 h2
    | true => exact sOn_tt Ls sxq syq La axq ayq Lb bxq byq w hLs hLa hLb fsx_0 fsy_0 fax_0 fay_0 fbx_0 fby_0 h1 h2 _ _ rfl (by simp)
end Go.Proofs.Ytkcfaddilknelaa
/- The statements' own Tame: what it answers; times. -/
namespace Go.Proofs.Ytkcfaddilknelaa
open Go.RowKit Go.MagM
theorem mag_cut {w : World} {ao : Option Addr} {n c L N : Nat} (hm : Mag w (.slice ao n c) L N) : ∃ (h : Nat) (uo : Option Addr), (∀ w : World, (Instr.slice 27 (Value.slice ao n c) none (some (Value.int .i64 (((h) : Nat) : Int))) none).run Try.prog w = Result.ok (Value.slice uo h c) w) ∧ (∀ w : World, Sem.run Try.prog (Builtin.min_ #[3, 3] 3 #[.int .i64 ((n : Nat) : Int), .int .i64 1]) w = Result.ok (Value.int .i64 (((h) : Nat) : Int)) w) ∧ Mag w (.slice uo h c) 1 (N % B) := by
  obtain ⟨ao', n', c', f, e, h1, _, h3, h4⟩ := hm
  simp at e
  obtain ⟨rfl, rfl, rfl⟩ := e
  cases n with
  | zero =>
    refine ⟨0, if c = 0 then ao else ao.map (fun a => a.add (0 * 1)), fun w => ?_, fun w => by kernel_rfl, _, 0, c, f, rfl, by omega, by omega, Reads.nil _ _ _, ?_⟩
    · simp [Instr.slice, Instr.sliceBounds, Instr.sliceBound, go_sem]
    · rw [← h4]; rfl
  | succ k =>
    obtain ⟨b, o, rfl, _, _⟩ := h3 0 (by omega)
    refine ⟨1, some ⟨b, o, none⟩, fun w => ?_, fun w => ?_, _, 1, c, f, rfl, by omega, by omega, h3.less (by omega), ?_⟩
    · have hc : (1 : Int) ≤ (c : Int) := by omega
      simp [Instr.slice, Instr.sliceBounds, Instr.sliceBound, go_sem, hc, Addr.add]
    · simp [go_sem]; omega
    · rw [← h4, show k + 1 = 1 + k by omega, V_split, V_one, Nat.pow_one, Nat.add_mul_mod_self_left, Nat.mod_eq_of_lt (h3.lt 0 (by omega))]
/-- What is left of a number behind its first word. -/
def tameQ (X : Int) (D : Nat) : Rat := if D % B = 0 then 0 else ((X.tmod (B : Int) : Int) : Rat) / (((D % B : Nat) : Int) : Rat)
theorem sgn_mod (m : Bool) (N : Nat) : sgn m (N % B) = (sgn m N).tmod (B : Int) := by
  cases m with
  | false => simp only [sgn, Bool.false_eq_true, if_false]; exact (Int.ofNat_tmod N B).symm
  | true => simp only [sgn, if_true]; rw [Int.neg_tmod, ← Int.ofNat_tmod]
theorem tame1_any {am : Bool} {ao : Option Addr} {an ac : Nat} {ap : Option Addr} {ak ad : Nat} (La : Nat) (Xa : Int) (Da : Nat) (w : World) (fa : FD w (.agg #[.bool am, .slice ao an ac, .slice ap ak ad]) La Xa Da) : Calls Try.prog 51 #[.agg #[.bool am, .slice ao an ac, .slice ap ak ad]] w fun e w' => AnsF w w' e (1) (tameQ Xa Da) := by
  obtain ⟨N, hN, rfl⟩ := fa.num.part
  obtain ⟨h, uo, e1, e3, fn⟩ := mag_cut hN
  obtain ⟨j, up, e2, e4, fd⟩ := mag_cut fa.mag
  by_cases h0 : Da % B = 0
  · refine (tame1_z am ao an ac ap ak ad uo up h j _ _ e1 e2 e3 e4 w fn fd h0).mono fun e w' g => g.of (Nat.le_refl _) ?_
    unfold tameQ; rw [if_pos h0]
  · refine (tame1_s am ao an ac ap ak ad uo up h j _ _ e1 e2 e3 e4 w fn fd (sgn_ne h0)).mono fun e w' g => g.of (by omega) ?_
    unfold tameQ; rw [if_neg h0, sgn_mod, sgn_false]
set_option maxHeartbeats 4000000 in
theorem stame_any {axm : Bool} {axo : Option Addr} {axn axc : Nat} {axp : Option Addr} {axk axd : Nat} {aym : Bool} {ayo : Option Addr} {ayn ayc : Nat} {ayp : Option Addr} {ayk ayd : Nat} (Lax Lay : Nat) (Xax Xay : Int) (Dax Day : Nat) (w : World) (fax_0 : FD w (.agg #[.bool axm, .slice axo axn axc, .slice axp axk axd]) Lax Xax Dax) (fay_0 : FD w (.agg #[.bool aym, .slice ayo ayn ayc, .slice ayp ayk ayd]) Lay Xay Day) :
    Calls Try.prog 19 #[.agg #[.bool axm, .slice axo axn axc, .slice axp axk axd, .bool aym, .slice ayo ayn ayc, .slice ayp ayk ayd]] w fun e w' => AnsS w w' e (1) (tameQ Xax Dax) (tameQ Xay Day) := by
  have hB_0 := Below.refl w.heap.size w
  obtain ⟨w1, hw1, pa_0, hb1, hs1⟩ := new_box w (w.heap.size) rfl [.bool axm, .slice axo axn axc, .slice axp axk axd, .bool aym, .slice ayo ayn ayc, .slice ayp ayk ayd] 33
  have hb1' : Below w.heap.size w w1 := hb1.mono (by omega)
  clear hb1
  have hB_1 := hB_0.trans (hb1'.mono hB_0.size)
  have fax_1 := fax_0.below hb1'
  have fay_1 := fay_0.below hb1'
  clear hb1' hB_0 fax_0 fay_0
  obtain ⟨w2, hw2, pr_0, hb2, hs2⟩ := new_box w1 (w.heap.size + 1) hs1 [.bool false, .slice none 0 0, .slice none 0 0, .bool false, .slice none 0 0, .slice none 0 0] 33
  have hb2' : Below w1.heap.size w1 w2 := hb2.mono (by omega)
  clear hb2
  have hB_2 := hB_1.trans (hb2'.mono hB_1.size)
  have fax_2 := fax_1.below hb2'
  have fay_2 := fay_1.below hb2'
  have pa_1 := pa_0.below hb2'
  clear hb2' hB_1 fax_1 fay_1 pa_0
  go_enter Try.func19, Try.ntmps19
  go_wp2
  have hB_3 := hB_2.drew'
  have fax_3 := fax_2.drew
  have fay_3 := fay_2.drew
  have pa_2 := pa_1.drew
  have pr_1 := pr_0.drew
  clear hB_2 fax_2 fay_2 pa_1 pr_0
  go_region_held3 (fun w' => w'.cell? ⟨w.heap.size, 0, none⟩ = some (.bool axm) ∧ w'.cell? ⟨w.heap.size, 1, none⟩ = some (.slice axo axn axc) ∧ w'.cell? ⟨w.heap.size, 2, none⟩ = some (.slice axp axk axd) ∧ w'.cell? ⟨w.heap.size, 3, none⟩ = some (.bool aym) ∧ w'.cell? ⟨w.heap.size, 4, none⟩ = some (.slice ayo ayn ayc) ∧ w'.cell? ⟨w.heap.size, 5, none⟩ = some (.slice ayp ayk ayd))
    (first | with_reducible exact ⟨pa_2.c0, pa_2.c1, pa_2.c2, pa_2.c3, pa_2.c4, pa_2.c5⟩ | with_reducible exact ⟨pa_3.c0, pa_3.c1, pa_3.c2, pa_3.c3, pa_3.c4, pa_3.c5⟩ | with_reducible exact ⟨pa_4.c0, pa_4.c1, pa_4.c2, pa_4.c3, pa_4.c4, pa_4.c5⟩ | with_reducible exact ⟨pa_5.c0, pa_5.c1, pa_5.c2, pa_5.c3, pa_5.c4, pa_5.c5⟩ | fail)
    (first
      | (go_at_call 51; (with_reducible refine (tame1_any Lax Xax Dax _ fax_3).mono ?_); rintro e w3 ⟨m1x, o1x, n1x, c1x, p1x, k1x, d1x, rfl, f1x_0, hb3⟩; have hB_4 := hB_3.trans (hb3.mono hB_3.size); have fax_4 := fax_3.below hb3; have fay_4 := fay_3.below hb3; have pa_3 := pa_2.below hb3; have pr_2 := pr_1.below hb3; clear hb3 hB_3 fax_3 fay_3 pa_2 pr_1)
      | (go_at_call 51; (with_reducible refine (tame1_any Lay Xay Day _ fay_4).mono ?_); rintro e w4 ⟨m1y, o1y, n1y, c1y, p1y, k1y, d1y, rfl, f1y_0, hb4⟩; have hB_5 := hB_4.trans (hb4.mono hB_4.size); have fax_5 := fax_4.below hb4; have fay_5 := fay_4.below hb4; have pa_4 := pa_3.below hb4; have pr_3 := pr_2.below hb4; have f1x_1 := f1x_0.below hb4; clear hb4 hB_4 fax_4 fay_4 pa_3 pr_2 f1x_0; obtain ⟨sf1a, sf1b, sf1c, sf1d, sf1e, sf1f, sf1g, sf1h, sf1i, sf1j, sf1k, sf1l⟩ := pr_3.open6; obtain ⟨sg1a, sg1b, sg1c, sg1d, sg1e, sg1f, sg1g, sg1h, sg1i, sg1j⟩ := Box.put6 pr_3 (.bool m1x) (.slice o1x n1x c1x) (.slice p1x k1x d1x) (.bool m1y) (.slice o1y n1y c1y); have hB_6 := below_setAll hB_5 (g := w.heap.size + 1) (by omega) [.bool m1x, .slice o1x n1x c1x, .slice p1x k1x d1x, .bool m1y, .slice o1y n1y c1y, .slice p1y k1y d1y]; have fax_6 := fax_5.setAll pr_3 (noWord6 _ _ _ _ _ _ _ _ _ _ _ _ _ _) [.bool m1x, .slice o1x n1x c1x, .slice p1x k1x d1x, .bool m1y, .slice o1y n1y c1y, .slice p1y k1y d1y] rfl; have fay_6 := fay_5.setAll pr_3 (noWord6 _ _ _ _ _ _ _ _ _ _ _ _ _ _) [.bool m1x, .slice o1x n1x c1x, .slice p1x k1x d1x, .bool m1y, .slice o1y n1y c1y, .slice p1y k1y d1y] rfl; have pa_5 := pa_4.farAll (g' := w.heap.size + 1) (by omega) [.bool m1x, .slice o1x n1x c1x, .slice p1x k1x d1x, .bool m1y, .slice o1y n1y c1y, .slice p1y k1y d1y]; have f1x_2 := f1x_1.setAll pr_3 (noWord6 _ _ _ _ _ _ _ _ _ _ _ _ _ _) [.bool m1x, .slice o1x n1x c1x, .slice p1x k1x d1x, .bool m1y, .slice o1y n1y c1y, .slice p1y k1y d1y] rfl; have f1y_1 := f1y_0.setAll pr_3 (noWord6 _ _ _ _ _ _ _ _ _ _ _ _ _ _) [.bool m1x, .slice o1x n1x c1x, .slice p1x k1x d1x, .bool m1y, .slice o1y n1y c1y, .slice p1y k1y d1y] rfl; have pr_4 := pr_3.setAll [.bool m1x, .slice o1x n1x c1x, .slice p1x k1x d1x, .bool m1y, .slice o1y n1y c1y, .slice p1y k1y d1y] rfl; simp only [setAll, Nat.zero_add, Nat.reduceAdd] at hB_6 fax_6 fay_6 pa_5 pr_4 f1x_2 f1y_1))
  clear hB_5 fax_5 fay_5 pa_4 f1x_1 f1y_0 pr_3
  clear sf1a sf1b sf1c sf1d sf1e sf1f sf1g sf1h sf1i sf1j sf1k sf1l sg1a sg1b sg1c sg1d sg1e sg1f sg1g sg1h sg1i sg1j
  generalize (World.setCell (World.setCell (World.setCell (World.setCell (World.setCell (World.setCell w4 ⟨w.heap.size + 1, 0, none⟩ (.bool m1x)) ⟨w.heap.size + 1, 1, none⟩ (.slice o1x n1x c1x)) ⟨w.heap.size + 1, 2, none⟩ (.slice p1x k1x d1x)) ⟨w.heap.size + 1, 3, none⟩ (.bool m1y)) ⟨w.heap.size + 1, 4, none⟩ (.slice o1y n1y c1y)) ⟨w.heap.size + 1, 5, none⟩ (.slice p1y k1y d1y)) = w5 at *
  go_wp2
  obtain ⟨pre0, pre1, pre2, pre3, pre4, pre5, pre6, pre7, pre8, pre9, pre10, pre11⟩ := pr_4.open6
  exact bodyPost_ret (v := .agg #[.bool m1x, .slice o1x n1x c1x, .slice p1x k1x d1x, .bool m1y, .slice o1y n1y c1y, .slice p1y k1y d1y]) (by simp [results, Try.results19, go_sem, pre0, pre1, pre2, pre3, pre4, pre5]) rfl ⟨_, _, _, _, _, _, _, _, _, _, _, _, _, _, rfl, f1x_2, f1y_1, hB_6⟩
set_option maxHeartbeats 4000000 in
theorem stimes_any {am : Bool} {ao : Option Addr} {an ac : Nat} {ap : Option Addr} {ak ad : Nat} (n : Int) (La : Nat) (aq : Rat) (w : World) (hLa : La ≤ 1000000) (h1 : -9223372036854775808 ≤ n) (h2 : n < 9223372036854775808) (fa_0 : FQ w (.agg #[.bool am, .slice ao an ac, .slice ap ak ad]) La aq) :
    Calls Try.prog 36 #[.int .i64 n, .agg #[.bool am, .slice ao an ac, .slice ap ak ad]] w fun e w' => AnsF w w' e (1 + La + 2) ((n : Rat) * aq) := by
  have hB_0 := Below.refl w.heap.size w
  have HLa := Lib.hid hLa
  clear hLa
  have H1 := Lib.hid h1; have H2 := Lib.hid h2; clear h1 h2
  obtain ⟨w1, hw1, pa_0, hb1, hs1⟩ := new_box w (w.heap.size) rfl [.bool am, .slice ao an ac, .slice ap ak ad] 31
  have hb1' : Below w.heap.size w w1 := hb1.mono (by omega)
  clear hb1
  have hB_1 := hB_0.trans (hb1'.mono hB_0.size)
  have fa_1 := fa_0.below hb1'
  clear hb1' hB_0 fa_0
  obtain ⟨w2, hw2, pr_0, hb2, hs2⟩ := new_box w1 (w.heap.size + 1) hs1 [.bool false, .slice none 0 0, .slice none 0 0] 31
  have hb2' : Below w1.heap.size w1 w2 := hb2.mono (by omega)
  clear hb2
  have hB_2 := hB_1.trans (hb2'.mono hB_1.size)
  have fa_2 := fa_1.below hb2'
  have pa_1 := pa_0.below hb2'
  clear hb2' hB_1 fa_1 pa_0
  go_enter Try.func36, Try.ntmps36
  go_wp2
  have hB_3 := hB_2.drew'
  have fa_3 := fa_2.drew
  have pa_2 := pa_1.drew
  have pr_1 := pr_0.drew
  clear hB_2 fa_2 pa_1 pr_0
  go_region_held3 (fun w' => w'.cell? ⟨w.heap.size, 0, none⟩ = some (.bool am) ∧ w'.cell? ⟨w.heap.size, 1, none⟩ = some (.slice ao an ac) ∧ w'.cell? ⟨w.heap.size, 2, none⟩ = some (.slice ap ak ad))
    (first | with_reducible exact ⟨pa_2.c0, pa_2.c1, pa_2.c2⟩ | with_reducible exact ⟨pa_3.c0, pa_3.c1, pa_3.c2⟩ | with_reducible exact ⟨pa_4.c0, pa_4.c1, pa_4.c2⟩ | with_reducible exact ⟨pa_5.c0, pa_5.c1, pa_5.c2⟩ | fail)
    (first
      | (go_at_call 21; (with_reducible refine (fOf_any n H1.out H2.out _).mono ?_); rintro e w3 ⟨m1, o1, n1, c1, p1, k1, d1, rfl, f1_0, hb3⟩; have hB_4 := hB_3.trans (hb3.mono hB_3.size); have fa_4 := fa_3.below hb3; have pa_3 := pa_2.below hb3; have pr_2 := pr_1.below hb3; clear hb3 hB_3 fa_3 pa_2 pr_1)
      | (go_at_call 23; (with_reducible refine (qMul _ _ 1 La _ aq _ (by omega) (by have := HLa.out; omega) f1_0.q fa_4).mono ?_); rintro e w4 ⟨m2, o2, n2, c2, p2, k2, d2, rfl, f2_0, hb4⟩; have hB_5 := hB_4.trans (hb4.mono hB_4.size); have fa_5 := fa_4.below hb4; have pa_4 := pa_3.below hb4; have pr_3 := pr_2.below hb4; have f1_1 := f1_0.below hb4; clear hb4 hB_4 fa_4 pa_3 pr_2 f1_0; obtain ⟨sf1a, sf1b, sf1c, sf1d, sf1e, sf1f⟩ := pr_3.open3; obtain ⟨sg1a, sg1b, sg1c, sg1d⟩ := Box.put3 pr_3 (.bool m2) (.slice o2 n2 c2); have hB_6 := below_setAll hB_5 (g := w.heap.size + 1) (by omega) [.bool m2, .slice o2 n2 c2, .slice p2 k2 d2]; have fa_6 := fa_5.setAll pr_3 (noWord3 _ _ _ _ _ _ _) [.bool m2, .slice o2 n2 c2, .slice p2 k2 d2] rfl; have pa_5 := pa_4.farAll (g' := w.heap.size + 1) (by omega) [.bool m2, .slice o2 n2 c2, .slice p2 k2 d2]; have f1_2 := f1_1.setAll pr_3 (noWord3 _ _ _ _ _ _ _) [.bool m2, .slice o2 n2 c2, .slice p2 k2 d2] rfl; have f2_1 := f2_0.setAll pr_3 (noWord3 _ _ _ _ _ _ _) [.bool m2, .slice o2 n2 c2, .slice p2 k2 d2] rfl; have pr_4 := pr_3.setAll [.bool m2, .slice o2 n2 c2, .slice p2 k2 d2] rfl; simp only [setAll, Nat.zero_add, Nat.reduceAdd] at hB_6 fa_6 pa_5 pr_4 f1_2 f2_1))
  clear hB_5 fa_5 pa_4 f1_1 f2_0 pr_3
  clear sf1a sf1b sf1c sf1d sf1e sf1f sg1a sg1b sg1c sg1d
  generalize (World.setCell (World.setCell (World.setCell w4 ⟨w.heap.size + 1, 0, none⟩ (.bool m2)) ⟨w.heap.size + 1, 1, none⟩ (.slice o2 n2 c2)) ⟨w.heap.size + 1, 2, none⟩ (.slice p2 k2 d2)) = w5 at *
  go_wp2
  obtain ⟨pre0, pre1, pre2, pre3, pre4, pre5⟩ := pr_4.open3
  exact bodyPost_ret (v := .agg #[.bool m2, .slice o2 n2 c2, .slice p2 k2 d2]) (by simp [results, Try.results36, go_sem, pre0, pre1, pre2]) rfl ⟨_, _, _, _, _, _, _, rfl, f2_1, hB_6⟩
end Go.Proofs.Ytkcfaddilknelaa
/- Sums of two and three, and of none. -/
namespace Go.Proofs.Ytkcfaddilknelaa
open Go.RowKit Go.MagM
theorem nums_two (w : World) (T : TypeId) {L1 L2 : Nat} {X Y : Int} {m1 m2 : Bool} {o1 o2 : Option Addr} {n1 c1 n2 c2 : Nat} (h1 : Num w (.agg #[.bool m1, .slice o1 n1 c1]) L1 X) (h2 : Num w (.agg #[.bool m2, .slice o2 n2 c2]) L2 Y) :
    Nums (w.alloc (.cells #[.bool m1, .slice o1 n1 c1, .bool m2, .slice o2 n2 c2] T)) (some ⟨w.heap.size, 0, none⟩) [(L1, X), (L2, Y)] := by
  have hb : Below w.heap.size w (w.alloc (.cells #[.bool m1, .slice o1 n1 c1, .bool m2, .slice o2 n2 c2] T)) := (Below.refl _ _).alloc (Nat.le_refl _) _
  intro i L Z hi
  have hi2 : i < 2 := by have := (List.getElem?_eq_some_iff.1 hi).1; simpa using this
  obtain rfl | rfl : i = 0 ∨ i = 1 := by omega
  · simp at hi; obtain ⟨rfl, rfl⟩ := hi
    exact ⟨_, 0, m1, o1, n1, c1, rfl, by simp [go_sem], by simp [go_sem], h1.below hb⟩
  · simp at hi; obtain ⟨rfl, rfl⟩ := hi
    exact ⟨_, 0, m2, o2, n2, c2, rfl, by simp [go_sem], by simp [go_sem], h2.below hb⟩
theorem nums_three (w : World) (T : TypeId) {L1 L2 L3 : Nat} {X Y Z : Int} {m1 m2 m3 : Bool} {o1 o2 o3 : Option Addr} {n1 c1 n2 c2 n3 c3 : Nat} (h1 : Num w (.agg #[.bool m1, .slice o1 n1 c1]) L1 X) (h2 : Num w (.agg #[.bool m2, .slice o2 n2 c2]) L2 Y) (h3 : Num w (.agg #[.bool m3, .slice o3 n3 c3]) L3 Z) :
    Nums (w.alloc (.cells #[.bool m1, .slice o1 n1 c1, .bool m2, .slice o2 n2 c2, .bool m3, .slice o3 n3 c3] T)) (some ⟨w.heap.size, 0, none⟩) [(L1, X), (L2, Y), (L3, Z)] := by
  have hb : Below w.heap.size w (w.alloc (.cells #[.bool m1, .slice o1 n1 c1, .bool m2, .slice o2 n2 c2, .bool m3, .slice o3 n3 c3] T)) := (Below.refl _ _).alloc (Nat.le_refl _) _
  intro i L Z hi
  have hi2 : i < 3 := by have := (List.getElem?_eq_some_iff.1 hi).1; simpa using this
  obtain rfl | rfl | rfl : i = 0 ∨ i = 1 ∨ i = 2 := by omega
  · simp at hi; obtain ⟨rfl, rfl⟩ := hi
    exact ⟨_, 0, m1, o1, n1, c1, rfl, by simp [go_sem], by simp [go_sem], h1.below hb⟩
  · simp at hi; obtain ⟨rfl, rfl⟩ := hi
    exact ⟨_, 0, m2, o2, n2, c2, rfl, by simp [go_sem], by simp [go_sem], h2.below hb⟩
  · simp at hi; obtain ⟨rfl, rfl⟩ := hi
    exact ⟨_, 0, m3, o3, n3, c3, rfl, by simp [go_sem], by simp [go_sem], h3.below hb⟩
theorem box_lt {w : World} {g : Nat} {u v : Value} (h : Box2 w g u v) : g < w.heap.size := World.block_lt_of_cell? w ⟨g, 0, none⟩ h.c0
theorem Nums.drew {w : World} {ao : Option Addr} {l : List (Nat × Int)} (h : Nums w ao l) : Nums w.drew ao l := h
end Go.Proofs.Ytkcfaddilknelaa
