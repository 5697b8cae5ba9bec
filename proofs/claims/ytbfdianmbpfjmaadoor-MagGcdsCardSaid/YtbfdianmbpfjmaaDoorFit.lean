/- What fit answers; short, of one, two, three. -/
import Derived.Test.YtbfdianmbpfjmaaDoorHelp
namespace Go.Proofs.YtbfdianmbpfjmaaDoor
open Go.RowKit Go.MagM
theorem short1_yes (K : Nat) (ao : Option Addr) (an ac : Nat) (w : World) (T : TypeId) (hK : K ≤ 1000000) (ah : an ≤ K) :
    Calls Tryd.prog 5 #[.int .i64 K, .slice (some ⟨w.heap.size, 0, none⟩) (1 : Nat) (1 : Nat)] (w.alloc (.cells #[.slice ao an ac] T)) fun e w' => e = .returned (.bool true) ∧ (w.alloc (.cells #[.slice ao an ac] T)) = w' :=
  short_yes K 1 w.heap.size (fun i => ao) (fun i => an) (fun i => ac) _ (by omega) hK (by
      intro i hi
      rw [World.cell?_alloc_new]
      match i, hi with
      | 0, _ => rfl
      ) (by
      intro i hi
      match i, hi with
      | 0, _ => exact ah
      )
theorem short1_no (K : Nat) (ao : Option Addr) (an ac : Nat) (w : World) (T : TypeId) (hK : K ≤ 1000000) (hx : ¬ (an ≤ K)) :
    Calls Tryd.prog 5 #[.int .i64 K, .slice (some ⟨w.heap.size, 0, none⟩) (1 : Nat) (1 : Nat)] (w.alloc (.cells #[.slice ao an ac] T)) fun e w' => e = .returned (.bool false) ∧ (w.alloc (.cells #[.slice ao an ac] T)) = w' :=
  short_no K 1 w.heap.size (fun i => ao) (fun i => an) (fun i => ac) _ (by omega) hK (by
      intro i hi
      rw [World.cell?_alloc_new]
      match i, hi with
      | 0, _ => rfl
      ) (by
      exact ⟨0, by omega, show K < an by omega⟩)
theorem short2_yes (K : Nat) (ao : Option Addr) (an ac : Nat) (bo : Option Addr) (bn bc : Nat) (w : World) (T : TypeId) (hK : K ≤ 1000000) (ah : an ≤ K) (bh : bn ≤ K) :
    Calls Tryd.prog 5 #[.int .i64 K, .slice (some ⟨w.heap.size, 0, none⟩) (2 : Nat) (2 : Nat)] (w.alloc (.cells #[.slice ao an ac, .slice bo bn bc] T)) fun e w' => e = .returned (.bool true) ∧ (w.alloc (.cells #[.slice ao an ac, .slice bo bn bc] T)) = w' :=
  short_yes K 2 w.heap.size (fun i => if i = 0 then ao else bo) (fun i => if i = 0 then an else bn) (fun i => if i = 0 then ac else bc) _ (by omega) hK (by
      intro i hi
      rw [World.cell?_alloc_new]
      match i, hi with
      | 0, _ => rfl
      | 1, _ => rfl
      ) (by
      intro i hi
      match i, hi with
      | 0, _ => exact ah
      | 1, _ => exact bh
      )
theorem short2_no (K : Nat) (ao : Option Addr) (an ac : Nat) (bo : Option Addr) (bn bc : Nat) (w : World) (T : TypeId) (hK : K ≤ 1000000) (hx : ¬ (an ≤ K ∧ bn ≤ K)) :
    Calls Tryd.prog 5 #[.int .i64 K, .slice (some ⟨w.heap.size, 0, none⟩) (2 : Nat) (2 : Nat)] (w.alloc (.cells #[.slice ao an ac, .slice bo bn bc] T)) fun e w' => e = .returned (.bool false) ∧ (w.alloc (.cells #[.slice ao an ac, .slice bo bn bc] T)) = w' :=
  short_no K 2 w.heap.size (fun i => if i = 0 then ao else bo) (fun i => if i = 0 then an else bn) (fun i => if i = 0 then ac else bc) _ (by omega) hK (by
      intro i hi
      rw [World.cell?_alloc_new]
      match i, hi with
      | 0, _ => rfl
      | 1, _ => rfl
      ) (by
      by_cases ah : an ≤ K
      · skip
        by_cases bh : bn ≤ K
        · exact absurd ⟨ah, bh⟩ hx
        · exact ⟨1, by omega, show K < bn by omega⟩
      · exact ⟨0, by omega, show K < an by omega⟩)
theorem short3_yes (K : Nat) (ao : Option Addr) (an ac : Nat) (bo : Option Addr) (bn bc : Nat) (co : Option Addr) (cn cc : Nat) (w : World) (T : TypeId) (hK : K ≤ 1000000) (ah : an ≤ K) (bh : bn ≤ K) (ch : cn ≤ K) :
    Calls Tryd.prog 5 #[.int .i64 K, .slice (some ⟨w.heap.size, 0, none⟩) (3 : Nat) (3 : Nat)] (w.alloc (.cells #[.slice ao an ac, .slice bo bn bc, .slice co cn cc] T)) fun e w' => e = .returned (.bool true) ∧ (w.alloc (.cells #[.slice ao an ac, .slice bo bn bc, .slice co cn cc] T)) = w' :=
  short_yes K 3 w.heap.size (fun i => if i = 0 then ao else if i = 1 then bo else co) (fun i => if i = 0 then an else if i = 1 then bn else cn) (fun i => if i = 0 then ac else if i = 1 then bc else cc) _ (by omega) hK (by
      intro i hi
      rw [World.cell?_alloc_new]
      match i, hi with
      | 0, _ => rfl
      | 1, _ => rfl
      | 2, _ => rfl
      ) (by
      intro i hi
      match i, hi with
      | 0, _ => exact ah
      | 1, _ => exact bh
      | 2, _ => exact ch
      )
theorem short3_no (K : Nat) (ao : Option Addr) (an ac : Nat) (bo : Option Addr) (bn bc : Nat) (co : Option Addr) (cn cc : Nat) (w : World) (T : TypeId) (hK : K ≤ 1000000) (hx : ¬ (an ≤ K ∧ bn ≤ K ∧ cn ≤ K)) :
    Calls Tryd.prog 5 #[.int .i64 K, .slice (some ⟨w.heap.size, 0, none⟩) (3 : Nat) (3 : Nat)] (w.alloc (.cells #[.slice ao an ac, .slice bo bn bc, .slice co cn cc] T)) fun e w' => e = .returned (.bool false) ∧ (w.alloc (.cells #[.slice ao an ac, .slice bo bn bc, .slice co cn cc] T)) = w' :=
  short_no K 3 w.heap.size (fun i => if i = 0 then ao else if i = 1 then bo else co) (fun i => if i = 0 then an else if i = 1 then bn else cn) (fun i => if i = 0 then ac else if i = 1 then bc else cc) _ (by omega) hK (by
      intro i hi
      rw [World.cell?_alloc_new]
      match i, hi with
      | 0, _ => rfl
      | 1, _ => rfl
      | 2, _ => rfl
      ) (by
      by_cases ah : an ≤ K
      · skip
        by_cases bh : bn ≤ K
        · skip
          by_cases ch : cn ≤ K
          · exact absurd ⟨ah, bh, ch⟩ hx
          · exact ⟨2, by omega, show K < cn by omega⟩
        · exact ⟨1, by omega, show K < bn by omega⟩
      · exact ⟨0, by omega, show K < an by omega⟩)
theorem rmag_one {w : World} {v : Value} {N : Nat} (h : RMag w v 1 N) (h0 : N ≠ 0) : ∃ ao c f, v = .slice ao 1 c ∧ 1 ≤ c ∧ Reads w ao 1 f ∧ f 0 = N := by
  obtain ⟨ao, n, c, f, rfl, h2, h3, h4, h5, h6⟩ := h
  have hn : n = 1 := by
    cases n with
    | zero => exact absurd h5.symm h0
    | succ k => omega
  subst hn
  exact ⟨ao, c, f, rfl, h2, h4, by rw [← h5, V_one]⟩
theorem two_zeros {z : Nat} (h : IsZeros 12 z) : z = 2 := by
  rcases h with ⟨h, _⟩ | ⟨m, hm⟩
  · omega
  · match z, hm with
    | 0, hm => omega
    | 1, hm => omega
    | 2, hm => rfl
    | z + 3, hm =>
      exfalso
      have e : 2 ^ (z + 3) * (2 * m + 1) = 8 * (2 ^ z * (2 * m + 1)) := by rw [Nat.pow_add, Nat.mul_comm (2 ^ z), Nat.mul_assoc]
      rw [e] at hm
      omega
set_option maxHeartbeats 2000000 in
theorem fit_any (w : World) (hT : Tab w) : Calls Tryd.prog 4 #[] w fun e w' => e = .returned (.bool true) ∧ Below w.heap.size w w' := by
  have hB := Below.refl w.heap.size w
  go_enter Tryd.func4, Tryd.ntmps4
  go_wp2_with fail
  refine (Of_any 7 _ (by unfold B; omega)).mono ?_
  rintro e w1 ⟨v1, rfl, h1, hb1⟩
  replace hT := hT.below hb1
  replace hB := hB.trans (hb1.mono hB.size)
  clear hb1
  go_wp2_with fail
  refine (Of_any 2 _ (by unfold B; omega)).mono ?_
  rintro e w2 ⟨v2, rfl, h2, hb2⟩
  replace hT := hT.below hb2
  replace h1 := h1.below hb2
  replace hB := hB.trans (hb2.mono hB.size)
  clear hb2
  go_wp2_with fail
  refine (Div_any _ _ 1 1 7 2 _ (by omega) (by omega) h1.mag h2.mag).mono ?_
  rintro e w3 ⟨vq, vr, rfl, hq1, hr1, hb3⟩
  replace hT := hT.below hb3
  replace h1 := h1.below hb3
  replace h2 := h2.below hb3
  replace hB := hB.trans (hb3.mono hB.size)
  clear hb3
  go_wp2_with fail
  refine (Of_any 3 _ (by unfold B; omega)).mono ?_
  rintro e w4 ⟨v3, rfl, h3, hb4⟩
  replace hT := hT.below hb4
  replace h1 := h1.below hb4
  replace h2 := h2.below hb4
  replace hq1 := hq1.below hb4
  replace hr1 := hr1.below hb4
  replace hB := hB.trans (hb4.mono hB.size)
  clear hb4
  go_wp2_with fail
  have cc := Cmp_any vq v3 1 1 (7 / 2) 3 w4 (by omega) (by omega) hq1.mag h3.mag
  rw [show cmpn (7 / 2) 3 = 0 from cmpn_self 3] at cc
  refine cc.mono ?_
  clear cc
  rintro e w5 ⟨q, rfl, hq⟩
  obtain ⟨hb5, hz⟩ := drewN_size hq
  clear hq hz
  replace hT := hT.below hb5
  replace h1 := h1.below hb5
  replace h2 := h2.below hb5
  replace hq1 := hq1.below hb5
  replace hr1 := hr1.below hb5
  replace h3 := h3.below hb5
  replace hB := hB.trans (hb5.mono hB.size)
  clear hb5
  go_wp2_with fail
  refine (Of_any 1 _ (by unfold B; omega)).mono ?_
  rintro e w6 ⟨v4, rfl, h4, hb6⟩
  replace hT := hT.below hb6
  replace h1 := h1.below hb6
  replace h2 := h2.below hb6
  replace hq1 := hq1.below hb6
  replace hr1 := hr1.below hb6
  replace h3 := h3.below hb6
  replace hB := hB.trans (hb6.mono hB.size)
  clear hb6
  go_wp2_with fail
  have cc := Cmp_any vr v4 1 1 (7 % 2) 1 w6 (by omega) (by omega) hr1.mag h4.mag
  rw [show cmpn (7 % 2) 1 = 0 from cmpn_self 1] at cc
  refine cc.mono ?_
  clear cc
  rintro e w7 ⟨q, rfl, hq⟩
  obtain ⟨hb7, hz⟩ := drewN_size hq
  clear hq hz
  replace hT := hT.below hb7
  replace h1 := h1.below hb7
  replace h2 := h2.below hb7
  replace hq1 := hq1.below hb7
  replace hr1 := hr1.below hb7
  replace h3 := h3.below hb7
  replace h4 := h4.below hb7
  replace hB := hB.trans (hb7.mono hB.size)
  clear hb7
  obtain ⟨qo, qc, qf, rfl, _, _, _⟩ := rmag_one hq1 (by omega)
  go_wp2_with fail
  refine (Of_any 12 _ (by unfold B; omega)).mono ?_
  rintro e w8 ⟨v5, rfl, h5, hb8⟩
  replace hT := hT.below hb8
  replace h1 := h1.below hb8
  replace h2 := h2.below hb8
  replace hr1 := hr1.below hb8
  replace h3 := h3.below hb8
  replace h4 := h4.below hb8
  replace hB := hB.trans (hb8.mono hB.size)
  clear hb8
  go_wp2_with fail
  refine (Zeros_any v5 1 12 _ (by omega) h5.mag hT).mono ?_
  rintro e wz ⟨z, rfl, hz, _, rfl⟩
  obtain rfl := two_zeros hz
  clear hz
  go_wp2
  go_ret
  exact ⟨rfl, hB⟩
end Go.Proofs.YtbfdianmbpfjmaaDoor
