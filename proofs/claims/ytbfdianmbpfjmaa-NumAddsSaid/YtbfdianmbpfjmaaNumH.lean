/- The helpers of layer 2's statements: fit, Right, short. -/
import Derived.Test.YtbfdianmbpfjmaaNumG
namespace Go.Proofs.Ytbfdianmbpfjmaa
open Go.RowKit Go.MagM
theorem rnum_one {w : World} {m : Bool} {ao : Option Addr} {n c L : Nat} (h : RNum w (.agg #[.bool m, .slice ao n c]) L 1) : n = 1 := by
  obtain ⟨m', vm, N, h1, h2, h3, h4⟩ := h
  obtain ⟨ao', n', c', f, rfl, h6, h7, h8, h9, h10⟩ := h2
  simp at h1
  obtain ⟨rfl, rfl, rfl, rfl⟩ := h1
  have hN : N = 1 := by cases m <;> simp only [sgn, if_true, if_false, Bool.false_eq_true] at h3 <;> omega
  subst hN
  have h11 := len_le_of_lt (L := 1) h10 (by rw [h9]; unfold B; omega)
  cases n with
  | zero => rw [V_zero] at h9; omega
  | succ n => omega
set_option maxHeartbeats 4000000 in
theorem fit_any (w : World) : Calls Try.prog 9 #[] w fun e w' => e = .returned (.bool true) ∧ Below w.heap.size w w' := by
  have hB_0 := Below.refl w.heap.size w
  go_enter Try.func9, Try.ntmps9
  go_wp2_with fail
  refine (nOf_any (-7) (by omega) (by omega) _).mono ?_
  rintro e w1 ⟨m1, ao1, n1, c1, rfl, h1_0, hb1⟩
  have hB_1 := hB_0.trans (hb1.mono hB_0.size)
  clear hb1 hB_0
  go_wp2_with fail
  refine (nOf_any 2 (by omega) (by omega) _).mono ?_
  rintro e w2 ⟨m2, ao2, n2, c2, rfl, h2_0, hb2⟩
  have hB_2 := hB_1.trans (hb2.mono hB_1.size)
  have h1_1 := h1_0.below hb2
  clear hb2 hB_1 h1_0
  go_wp2_with fail
  refine (nDiv_any _ _ 1 1 (-7) 2 _ (by omega) (by omega) h1_1.num h2_0.num).mono ?_
  rintro e w3 ⟨m3, ao3, n3, c3, m4, ao4, n4, c4, rfl, h3_0, h4_0, hb3⟩
  have hB_3 := hB_2.trans (hb3.mono hB_2.size)
  have h1_2 := h1_1.below hb3
  have h2_1 := h2_0.below hb3
  clear hb3 hB_2 h1_1 h2_0
  clear h1_2 h2_1
  go_wp2_with fail
  obtain ⟨q_0, r_0, hb4⟩ := boxed2 w3 (.bool m3) (.slice ao3 n3 c3) (.bool m4) (.slice ao4 n4 c4) 25
  have hB_4 := hB_3.trans (hb4.mono hB_3.size)
  have h3_1 := h3_0.below hb4
  have h4_1 := h4_0.below hb4
  clear hb4 hB_3 h3_0 h4_0
  generalize ((w3.alloc (Obj.cells #[Value.bool m3, Value.slice ao3 n3 c3] 25)).alloc (Obj.cells #[Value.bool m4, Value.slice ao4 n4 c4] 25)) = w4 at *
  obtain ⟨qe0, qe1, qe2, qe3⟩ := (id q_0)
  obtain ⟨re0, re1, re2, re3⟩ := (id r_0)
  obtain rfl := rnum_one h4_1
  go_wp2_with fail
  refine (nInt_yes _ _ (-4) _ (by omega) h3_1.num (by omega) (by omega)).mono ?_
  rintro e w5 ⟨rfl, hb5⟩
  clear qe0 qe1 qe2 qe3 re0 re1 re2 re3
  have hB_5 := hB_4.trans (hb5.mono hB_4.size)
  have h3_2 := h3_1.below hb5
  have h4_2 := h4_1.below hb5
  have q_1 := q_0.below hb5
  have r_1 := r_0.below hb5
  clear hb5 hB_4 h3_1 h4_1 q_0 r_0
  obtain ⟨qe0, qe1, qe2, qe3⟩ := (id q_1)
  obtain ⟨re0, re1, re2, re3⟩ := (id r_1)
  go_wp2_with fail
  refine (Sign_any _ _ 1 _ (by omega) h4_2.num).mono ?_
  rintro e w6 ⟨rfl, hb6⟩
  clear qe0 qe1 qe2 qe3 re0 re1 re2 re3
  have hB_6 := hB_5.trans (hb6.mono hB_5.size)
  have h3_3 := h3_2.below hb6
  have h4_3 := h4_2.below hb6
  have q_2 := q_1.below hb6
  have r_2 := r_1.below hb6
  clear hb6 hB_5 h3_2 h4_2 q_1 r_1
  obtain ⟨qe0, qe1, qe2, qe3⟩ := (id q_2)
  obtain ⟨re0, re1, re2, re3⟩ := (id r_2)
  go_wp2_with fail
  have cc := nCmp_any _ _ _ _ (-4) 1 _ (by omega) (by omega) h3_3.num h4_3.num
  rw [show icmp (-4) 1 = -1 from rfl] at cc
  refine cc.mono ?_
  clear cc
  rintro e w7 ⟨rfl, hb7⟩
  clear qe0 qe1 qe2 qe3 re0 re1 re2 re3
  have hB_7 := hB_6.trans (hb7.mono hB_6.size)
  have h3_4 := h3_3.below hb7
  have h4_4 := h4_3.below hb7
  have q_3 := q_2.below hb7
  have r_3 := r_2.below hb7
  clear hb7 hB_6 h3_3 h4_3 q_2 r_2
  obtain ⟨qe0, qe1, qe2, qe3⟩ := (id q_3)
  obtain ⟨re0, re1, re2, re3⟩ := (id r_3)
  go_wp2
  go_ret
  exact ⟨rfl, hB_7⟩
set_option maxHeartbeats 4000000 in
theorem Right_nil (m : Bool) (b o : Nat) (ao : Option Addr) (c x : Nat) (w : World) (hm : m = false)  :
    Calls Try.prog 26 #[.agg #[.bool m, .slice ao 0 c]] w fun e w' => e = .returned (.bool true) ∧ Below w.heap.size w w' := by
  subst hm
  go_enter Try.func26, Try.ntmps26
  go_wp2
  go_ret
  exact ⟨rfl, (Below.refl _ _).alloc (Nat.le_refl _) _⟩
set_option maxHeartbeats 4000000 in
theorem Right_some (m : Bool) (b o : Nat) (ao : Option Addr) (c x : Nat) (k : Nat) (w : World)  (hao : ao = some ⟨b, o, none⟩) (hk : k + 1 ≤ 4000000000) (h0 : x ≠ 0) (hc : w.cell? ⟨b, o + k, none⟩ = some (.int .u64 (x : Int))) :
    Calls Try.prog 26 #[.agg #[.bool m, .slice ao (k + 1) c]] w fun e w' => e = .returned (.bool true) ∧ Below w.heap.size w w' := by
  subst hao
  have hx0 : ((x : Int) == 0) = false := by simp only [beq_eq_false_iff_ne]; omega
  have hx1 : ((x : Int) != 0) = true := by simp; omega
  have hk1 : (((k : Int) + 1) == 0) = false := by simp only [beq_eq_false_iff_ne]; omega
  have hcell : (w.alloc (.cells #[.bool m, .slice (some ⟨b, o, none⟩) (k + 1) c] 25)).cell? ⟨b, o + k, none⟩ = some (.int .u64 (x : Int)) := by
    have hb : Below w.heap.size w (w.alloc (.cells #[.bool m, .slice (some ⟨b, o, none⟩) (k + 1) c] 25)) := (Below.refl _ _).alloc (Nat.le_refl _) _
    rw [hb.cell (p := ⟨b, o + k, none⟩) (World.block_lt_of_cell? w _ hc)]; exact hc
  clear hc h0
  cases m
  all_goals
    go_enter Try.func26, Try.ntmps26
    go_wp2
    go_ret
    exact ⟨rfl, (Below.refl _ _).alloc (Nat.le_refl _) _⟩
theorem Right_any (va : Value) (L : Nat) (X : Int) (w : World) (hL : L ≤ 4000000000) (h : RNum w va L X) :
    Calls Try.prog 26 #[va] w fun e w' => e = .returned (.bool true) ∧ Below w.heap.size w w' := by
  obtain ⟨m, vm, N, rfl, hm, hX, hN⟩ := h
  obtain ⟨ao, n, c, f, rfl, h6, h7, h8, h9, h10⟩ := hm
  cases n with
  | zero =>
    refine Right_nil m 0 0 ao c 0 w ?_
    cases m with
    | false => rfl
    | true => exact absurd h9.symm (hN rfl)
  | succ k =>
    obtain ⟨b, o, hao, h11, h12⟩ := h8 k (by omega)
    exact Right_some m b o ao c (f k) k w hao (by omega) (h10 k rfl) h11
/-- Block g, from 0 on, holds k Nums: these cells. -/
def Row (w : World) (g k : Nat) (mf : Nat → Bool) (af : Nat → Option Addr) (nf cf : Nat → Nat) : Prop :=
  ∀ i, i < k → w.cell? ⟨g, i * 2, none⟩ = some (.bool (mf i)) ∧ w.cell? ⟨g, i * 2 + 1, none⟩ = some (.slice (af i) (nf i) (cf i))
theorem Row.below {w w' : World} {g k : Nat} {mf : Nat → Bool} {af : Nat → Option Addr} {nf cf : Nat → Nat} (h : Row w g k mf af nf cf) (hb : Below w.heap.size w w') : Row w' g k mf af nf cf := by
  intro i hi
  obtain ⟨h1, h2⟩ := h i hi
  have hlt := World.block_lt_of_cell? w _ h1
  exact ⟨(hb.cell (p := ⟨g, i * 2, none⟩) hlt).trans h1, (hb.cell (p := ⟨g, i * 2 + 1, none⟩) hlt).trans h2⟩
set_option maxHeartbeats 4000000 in
theorem nshort_yes (K k g : Nat) (mf : Nat → Bool) (af : Nat → Option Addr) (nf cf : Nat → Nat) (w : World) (hk : k ≤ 1000) (hK : K ≤ 1000000) (hr : Row w g k mf af nf cf) (hs : ∀ i, i < k → nf i ≤ K) :
    Calls Try.prog 10 #[.int .i64 (K : Int), .slice (some ⟨g, 0, none⟩) k k] w fun e w' => e = .returned (.bool true) ∧ Below w.heap.size w w' := by
  have HR := Lib.hid hr; have HS := Lib.hid hs; clear hr hs
  go_enter Try.func10, Try.ntmps10
  go_wp2
  go_loopw [9] (fun iv wr => ∃ j : Nat, j ≤ k ∧ iv = .int .i64 j ∧ Below w.heap.size w wr) (fun iv _ => k - (intOf iv).toNat)
  case atStart => exact ⟨0, Nat.zero_le _, rfl, Below.refl _ _⟩
  case round =>
    obtain ⟨j, hj, rfl, hbel⟩ := hrel
    have HB := Lib.hid hbel
    by_cases hlt : j < k
    · obtain ⟨h1, h2⟩ := HR.out.below hbel j hlt
      have hsj := HS.out j hlt
      clear hbel
      generalize nf j = x at *
      generalize mf j = y at *
      generalize af j = z at *
      generalize cf j = u at *
      go_wp2
      refine ⟨⟨j + 1, by omega, by go_num, HB.out.trans (((Below.refl _ _).alloc (Nat.le_refl _) _).mono HB.out.size)⟩, by simp [intOf]; omega⟩
    · go_wp2
      go_ret
      exact ⟨rfl, HB.out⟩
set_option maxHeartbeats 4000000 in
theorem nshort_no (K k g : Nat) (mf : Nat → Bool) (af : Nat → Option Addr) (nf cf : Nat → Nat) (w : World) (hk : k ≤ 1000) (hK : K ≤ 1000000) (hr : Row w g k mf af nf cf) (hs : ∃ i, i < k ∧ K < nf i) :
    Calls Try.prog 10 #[.int .i64 (K : Int), .slice (some ⟨g, 0, none⟩) k k] w fun e w' => e = .returned (.bool false) ∧ Below w.heap.size w w' := by
  have HR := Lib.hid hr; have HS := Lib.hid hs; clear hr hs
  go_enter Try.func10, Try.ntmps10
  go_wp2
  go_loopw [9] (fun iv wr => ∃ j : Nat, j ≤ k ∧ iv = .int .i64 j ∧ Below w.heap.size w wr ∧ ∀ i, i < j → nf i ≤ K) (fun iv _ => k - (intOf iv).toNat)
  case atStart => exact ⟨0, Nat.zero_le _, rfl, Below.refl _ _, fun i hi => by omega⟩
  case round =>
    obtain ⟨j, hj, rfl, hbel, hall⟩ := hrel
    have HB := Lib.hid hbel; have HA := Lib.hid hall; clear hall
    by_cases hlt : j < k
    · obtain ⟨h1, h2⟩ := HR.out.below hbel j hlt
      by_cases hsj : nf j ≤ K
      · have HJ := Lib.hid hsj
        clear hbel
        generalize hx : nf j = x at *
        have HX := Lib.hid hx; clear hx
        generalize mf j = y at *
        generalize af j = z at *
        generalize cf j = u at *
        go_wp2
        refine ⟨⟨j + 1, by omega, by go_num, HB.out.trans (((Below.refl _ _).alloc (Nat.le_refl _) _).mono HB.out.size), fun i hi => ?_⟩, by simp [intOf]; omega⟩
        by_cases e : i = j
        · subst e; rw [HX.out]; exact hsj
        · exact HA.out i (by omega)
      · skip
        clear hbel
        generalize nf j = x at *
        generalize mf j = y at *
        generalize af j = z at *
        generalize cf j = u at *
        go_wp2
        go_ret
        exact ⟨rfl, HB.out.trans (((Below.refl _ _).alloc (Nat.le_refl _) _).mono HB.out.size)⟩
    · exfalso
      obtain ⟨i, hi, h⟩ := HS.out
      have := HA.out i (by omega)
      omega
end Go.Proofs.Ytbfdianmbpfjmaa
