/- nearer. -/
import Derived.Test.YtkcfaddilknelaaParti
import Derived.Test.YtkcfaddilknelaaParth
import Derived.Test.YtkcfaddilknelaaPartg
namespace Go.Proofs.Ytkcfaddilknelaa
open Go.RowKit Go.MagM Go.MagG
theorem mix_mag (va vb : Value) (L M A C p q : Nat) (w : World) (hL : L ≤ 4000000000) (hM : M ≤ 4000000000) (ha : Mag w va L A) (hb : Mag w vb M C) (hp : p < B) (hq : q < B) (hle : C * q ≤ A * p) :
    Calls Try.prog 92 #[va, .int .u64 (p : Int), vb, .int .u64 (q : Int)] w fun e w' => ∃ v, e = .returned v ∧ RMag w' v (max L M + 1) (A * p - C * q) ∧ Below w.heap.size w w' := by
  obtain ⟨ao, n, ca, f, rfl, h1, h2, h3, rfl⟩ := ha
  obtain ⟨bo, m, cb, g, rfl, k1, k2, k3, rfl⟩ := hb
  refine (mix_any ao n ca f bo m cb g p q (max n m + 1) w (by omega) (by omega) rfl h3 k3 hp hq hle).mono ?_
  rintro e w' ⟨v, h4, h5, h6⟩
  exact ⟨v, h4, h5.more (by omega), h6⟩
/-- The heads of two numbers, and what is below. -/
theorem heads {f g : Nat → Nat} {n m T t s : Nat} (hf : ∀ i, i < n → f i < B) (hg : ∀ i, i < m → g i < B) (hn : n = T + 1) (hT : T = t + 1) (hmn : m ≤ n) (hle : V g m ≤ V f n) (h0 : f T ≠ 0) (hs : s = 64 - bl (f T)) :
    s ≤ 63 ∧ zx f n T * 2 ^ s % B + zx f n t * 2 ^ s / B = V f n / (B ^ t * 2 ^ (64 - s)) ∧ zx g m T * 2 ^ s % B + zx g m t * 2 ^ s / B = V g m / (B ^ t * 2 ^ (64 - s)) ∧
      zx f n T * 2 ^ s % B + zx f n t * 2 ^ s / B < B ∧ zx g m T * 2 ^ s % B + zx g m t * 2 ^ s / B < B := by
  have hb1 := bl_pos h0
  have hs63 : s ≤ 63 := by omega
  have hxB : f T < B := hf T (by omega)
  have hbl : bl (f T) ≤ 64 := by
    rcases Nat.lt_or_ge 64 (bl (f T)) with h | h
    · exfalso
      have h1 := bl_ge h0
      have h2 : 2 ^ 64 ≤ 2 ^ (bl (f T) - 1) := Nat.pow_le_pow_right (by omega) (by omega)
      have h3 : B = 2 ^ 64 := rfl
      omega
    · exact h
  have hzf : zx f n T = f T := if_pos (by omega)
  have htop : zx f n T * 2 ^ s < B := by
    rw [hzf]
    have h1 := bl_lt (f T)
    have h2 : f T * 2 ^ s < 2 ^ bl (f T) * 2 ^ s := Nat.mul_lt_mul_of_pos_right h1 (Nat.pow_pos (by omega))
    rw [← Nat.pow_add, show bl (f T) + s = 64 by omega] at h2
    exact h2
  have hcmp : zx g m T ≤ zx f n T := by
    rcases Nat.lt_or_ge (zx f n T) (zx g m T) with h | h
    · exfalso
      have h1 : V (zx g m) (T + 1) = V g m := zx_V g (by omega)
      have h2 : V (zx f n) (T + 1) = V f n := zx_V f (by omega)
      rw [V_succ] at h1 h2
      have h3 : V (zx f n) T < B ^ T := V_lt (fun i _ => zx_lt hf i)
      have h4 := Nat.mul_le_mul_right (B ^ T) (show zx f n T + 1 ≤ zx g m T by omega)
      rw [Nat.add_mul, Nat.one_mul] at h4
      omega
    · exact h
  have htop2 : zx g m T * 2 ^ s < B := Nat.lt_of_le_of_lt (Nat.mul_le_mul_right _ hcmp) htop
  have l1 := up_lt (zx f n T) (zx_lt hf t) (show s ≤ 64 by omega)
  have l2 := up_lt (zx g m T) (zx_lt hg t) (show s ≤ 64 by omega)
  subst hT
  exact ⟨hs63, head_val f n t s hf (by omega) hs63 htop, head_val g m t s hg (by omega) hs63 htop2, l1, l2⟩
/-- What nearer answers. -/
def Near (w w' : World) (e : Ending) (L A C : Nat) : Prop := ∃ va vb P Q, e = .returned (.tuple #[va, vb]) ∧ RMag w' va L P ∧ RMag w' vb L Q ∧ Q ≤ P ∧ Nat.gcd P Q = Nat.gcd A C ∧ P + Q < A + C ∧ P ≤ A ∧ Below w.heap.size w w'
set_option maxRecDepth 100000 in
set_option maxHeartbeats 4000000 in
theorem nearer_core (ao : Option Addr) (n ca : Nat) (f : Nat → Nat) (bo : Option Addr) (m cb : Nat) (g : Nat → Nat) (T t s : Nat) (w : World) (hn4 : n ≤ 4000000000) (hn : n = T + 1) (hT : T = t + 1) (hmn : m ≤ n) (hca : n ≤ ca) (hcb : m ≤ cb)
    (hra : Reads w ao n f) (hrb : Reads w bo m g) (rf : Right f n) (rg : Right g m) (hm0 : m ≠ 0) (hle : V g m ≤ V f n) (hs : s = 64 - bl (f T)) :
    Calls Try.prog 75 #[.slice ao n ca, .slice bo m cb] w fun e w' => Near w w' e n (V f n) (V g m) := by
  have hfT : f T ≠ 0 := rf T hn
  obtain ⟨hs63, ha1, hb1, ha2, hb2⟩ := heads hra.lt hrb.lt hn hT hmn hle hfT hs
  have hn1 : (n : Int) - 1 = (T : Int) := by omega
  have hTn : T < n := by omega
  have hT1 : (T : Int) - 1 = (t : Int) := by omega
  have hA1 := fun w' (h : Below w.heap.size w w') => head_any ao n ca T t s f w' (by omega) hT1 hs63 (hra.below h)
  have hB1 := fun w' (h : Below w.heap.size w w') => head_any bo m cb T t s g w' (by omega) hT1 hs63 (hrb.below h)
  obtain ⟨A0, hA0⟩ : ∃ A0, zx f n T * 2 ^ s % B + zx f n t * 2 ^ s / B = A0 := ⟨_, rfl⟩
  obtain ⟨B0, hB0'⟩ : ∃ B0, zx g m T * 2 ^ s % B + zx g m t * 2 ^ s / B = B0 := ⟨_, rfl⟩
  rw [hA0] at ha1 ha2 hA1
  rw [hB0'] at hb1 hb2 hB1
  obtain ⟨S, hS⟩ : ∃ S, B ^ t * 2 ^ (64 - s) = S := ⟨_, rfl⟩
  rw [hS] at ha1 hb1
  have hSp : 0 < S := by rw [← hS]; exact Nat.mul_pos (Bp t) (Nat.pow_pos (by omega))
  obtain ⟨A, hA⟩ : ∃ A, V f n = A := ⟨_, rfl⟩
  obtain ⟨C, hC⟩ : ∃ C, V g m = C := ⟨_, rfl⟩
  have ax_0 : Mag w (.slice ao n ca) n A := ⟨ao, n, ca, f, rfl, hca, Nat.le_refl _, hra, hA⟩
  have bx_0 : Mag w (.slice bo m cb) m C := ⟨bo, m, cb, g, rfl, hcb, Nat.le_refl _, hrb, hC⟩
  have bq_0 : RMag w (.slice bo m cb) m C := ⟨bo, m, cb, g, rfl, hcb, Nat.le_refl _, hrb, hC, rg⟩
  have hC0 : 0 < C := by
    obtain ⟨k, rfl⟩ : ∃ k, m = k + 1 := ⟨m - 1, by omega⟩
    have := rg.ge; have := Bp k; omega
  rw [hA, hC] at hle
  rw [hA] at ha1 ⊢
  rw [hC] at hb1 ⊢
  have h0A : B0 ≤ A0 := by rw [ha1, hb1]; exact Nat.div_le_div_right hle
  have eA : A0 * S + A % S = A := by rw [ha1, Nat.mul_comm]; exact Nat.div_add_mod A S
  have eC : B0 * S + C % S = C := by rw [hb1, Nat.mul_comm]; exact Nat.div_add_mod C S
  have HLP := Lib.hid (leap_any A0 B0 · ha2 hb2 h0A)
  obtain ⟨xb, xo, rfl, hxc, hxB⟩ := hra T hTn
  obtain ⟨x, hx⟩ : ∃ x, f T = x := ⟨_, rfl⟩
  rw [hx] at hxc hxB hs
  have HLD := Lib.hid (lead64_any x · hxB)
  have HS := Lib.hid hs
  have HA1 := Lib.hid hA1; have HB1 := Lib.hid hB1; have HEA := Lib.hid eA; have HEC := Lib.hid eC; have HSP := Lib.hid hSp; have HLE := Lib.hid hle; have HC0 := Lib.hid hC0; have HMN := Lib.hid hmn
  have HHA := Lib.hid ha2; have HHB := Lib.hid hb2
  clear hA1 hB1 eA eC hSp hle ha1 hb1 ha2 hb2 h0A hA hC hS hA0 hB0' hra hrb rf rg hfT hs63 hT1 hn hT hx hxB hs hC0 hm0 hmn hca hcb
  have hB_0 := Below.refl w.heap.size w
  go_enter Try.func75, Try.ntmps75
  go_wp2_with fail
  refine (HLD.out _).mono ?_
  rintro e w' ⟨rfl, rfl⟩
  have hss : ((64 - bl x : Nat) : Int) = (s : Int) := by rw [← HS.out]
  go_wp2_with fail
  refine (HA1.out _ hB_0).mono ?_
  rintro e w1 ⟨q, rfl, hq⟩
  obtain ⟨hb1, hz⟩ := drewN_size hq
  clear hq hz
  have hB_1 := hB_0.trans (hb1.mono hB_0.size)
  have ax_1 := ax_0.below hb1
  have bx_1 := bx_0.below hb1
  have bq_1 := bq_0.below hb1
  clear hb1 hB_0 ax_0 bx_0 bq_0
  go_wp2_with fail
  refine (HB1.out _ hB_1).mono ?_
  rintro e w2 ⟨q, rfl, hq⟩
  obtain ⟨hb2, hz⟩ := drewN_size hq
  clear hq hz
  have hB_2 := hB_1.trans (hb2.mono hB_1.size)
  have ax_2 := ax_1.below hb2
  have bx_2 := bx_1.below hb2
  have bq_2 := bq_1.below hb2
  clear hb2 hB_1 ax_1 bx_1 bq_1
  go_wp2_with fail
  refine (HLP.out _).mono ?_
  rintro e w3 ⟨a, b, x0, x1, y0, y1, odd, hl, rfl, hb3⟩
  have hB_3 := hB_2.trans (hb3.mono hB_2.size)
  have ax_3 := ax_2.below hb3
  have bx_3 := bx_2.below hb3
  have bq_3 := bq_2.below hb3
  clear hb3 hB_2 ax_2 bx_2 bq_2
  have HL := Lib.hid hl; clear hl HA1 HB1 HLP HLD hss HS
  by_cases hy : y0 = 0
  · skip
    have hy' : ((y0 : Int) == 0) = true := by subst hy; rfl
    clear hy
    go_wp2_with fail
    obtain ⟨px_0, py_0, hb4⟩ := boxed2 w3 (.int .u64 (x0 : Int)) (.int .u64 (x1 : Int)) (.int .u64 (y0 : Int)) (.int .u64 (y1 : Int)) 115
    have hB_4 := hB_3.trans (hb4.mono hB_3.size)
    have ax_4 := ax_3.below hb4
    have bx_4 := bx_3.below hb4
    have bq_4 := bq_3.below hb4
    clear hb4 hB_3 ax_3 bx_3 bq_3
    generalize ((w3.alloc (Obj.cells #[Value.int .u64 (x0 : Int), Value.int .u64 (x1 : Int)] 115)).alloc (Obj.cells #[Value.int .u64 (y0 : Int), Value.int .u64 (y1 : Int)] 115)) = w4 at *
    have hmn : m ≤ n := HMN.out
    refine (Div_any _ _ n m A C _ (by omega) (by omega) ax_4 bx_4).mono ?_
    rintro e w9 ⟨vq, vr, rfl, h1, h2, hb9⟩
    have hB_5 := hB_4.trans (hb9.mono hB_4.size)
    have ax_5 := ax_4.below hb9
    have bx_5 := bx_4.below hb9
    have bq_5 := bq_4.below hb9
    have px_1 := px_0.below hb9
    have py_1 := py_0.below hb9
    clear hb9 hB_4 ax_4 bx_4 bq_4 px_0 py_0
    go_wp2
    go_ret2
    have hC := HC0.out
    have hl := Nat.mod_lt A hC
    have hle := HLE.out
    refine ⟨_, _, C, A % C, rfl, bq_5.more hmn, h2, Nat.le_of_lt hl, ?_, by omega, hle, hB_5⟩
    rw [Nat.gcd_comm C, ← Nat.gcd_rec, Nat.gcd_comm]
  · skip
    have hy' : ((y0 : Int) == 0) = false := by simp only [beq_eq_false_iff_ne]; omega
    obtain ⟨P, Q, he, ho, hQP, hgcd, hPA, hPC, k1, k2, k3⟩ := HL.out.pair hy S (A % S) (C % S) (Nat.mod_lt _ HSP.out) (Nat.mod_lt _ HSP.out)
    rw [HEA.out, HEC.out] at he ho hgcd
    rw [HEA.out] at hPA
    rw [HEC.out] at hPC
    have hA0 : 0 < A := Nat.lt_of_lt_of_le HC0.out HLE.out
    obtain ⟨hless, hPle⟩ := less_pair A C P Q x0 x1 y0 y1 hPA hPC k1 k2 k3 hQP hA0
    have hb4 : x0 < B ∧ x1 < B ∧ y0 < B ∧ y1 < B := by
      rcases HL.out.gone with hg | hg
      · exact absurd hg.1 hy
      · have h1 := HL.out.detA
        have h2 := HHA.out
        have h3 := Nat.mul_le_mul_right a (show 1 ≤ y1 by omega)
        rw [Nat.one_mul] at h3
        omega
    obtain ⟨hx0, hx1, hy0, hy1⟩ := hb4
    have hmn : m ≤ n := HMN.out
    have HX0 := Lib.hid hx0; have HX1 := Lib.hid hx1; have HY0 := Lib.hid hy0; have HY1 := Lib.hid hy1; have HMN2 := Lib.hid hmn
    have HQP := Lib.hid hQP; have HG := Lib.hid hgcd; have HLS := Lib.hid hless; have HPL := Lib.hid hPle
    clear hQP hgcd hPA hPC k1 k2 k3 hA0 hless hPle hx0 hx1 hy0 hy1 hmn hy
    cases odd with
    | false =>
      obtain ⟨r1, r2⟩ := he rfl
      clear he ho
      have E1 := Lib.hid (show C * y0 ≤ A * x0 by rw [Nat.mul_comm C, Nat.mul_comm A]; omega)
      have E2 := Lib.hid (show A * x1 ≤ C * y1 by rw [Nat.mul_comm C, Nat.mul_comm A]; omega)
      have E3 := Lib.hid (show A * x0 - C * y0 = P by rw [Nat.mul_comm C, Nat.mul_comm A]; omega)
      have E4 := Lib.hid (show C * y1 - A * x1 = Q by rw [Nat.mul_comm C, Nat.mul_comm A]; omega)
      clear r1 r2
      have hmn : m ≤ n := HMN2.out
      go_wp2
      obtain ⟨px_0, py_0, hb4⟩ := boxed2 w3 (.int .u64 (x0 : Int)) (.int .u64 (x1 : Int)) (.int .u64 (y0 : Int)) (.int .u64 (y1 : Int)) 115
      have hB_4 := hB_3.trans (hb4.mono hB_3.size)
      have ax_4 := ax_3.below hb4
      have bx_4 := bx_3.below hb4
      have bq_4 := bq_3.below hb4
      clear hb4 hB_3 ax_3 bx_3 bq_3
      generalize ((w3.alloc (Obj.cells #[Value.int .u64 (x0 : Int), Value.int .u64 (x1 : Int)] 115)).alloc (Obj.cells #[Value.int .u64 (y0 : Int), Value.int .u64 (y1 : Int)] 115)) = w4 at *
      have hB_5 := hB_4.drew'
      have ax_5 := ax_4.drew
      have bx_5 := bx_4.drew
      have bq_5 := bq_4.drew
      have px_1 := px_0.drew
      have py_1 := py_0.drew
      refine wp_region_noPanic ?_
      refine wp_region_held_drew (S := fun w' => w'.cell? ⟨w3.heap.size, 0, none⟩ = some (.int .u64 (x0 : Int)) ∧ w'.cell? ⟨w3.heap.size, 1, none⟩ = some (.int .u64 (x1 : Int)) ∧ w'.cell? ⟨w3.heap.size + 1, 0, none⟩ = some (.int .u64 (y0 : Int)) ∧ w'.cell? ⟨w3.heap.size + 1, 1, none⟩ = some (.int .u64 (y1 : Int))) (by kernel_rfl) (⟨px_1.c0, px_1.c1, py_1.c0, py_1.c1⟩) (fun hHeld => ?_)
      refine reg_take 0 ?_ ?_ ?_ (by kernel_rfl) (by kernel_rfl) (by kernel_rfl) (fun _ _ _ h => h) ?_ ?_ (by assumption) ?_
      rotate_left 2
      · simp only [List.getElem?_toArray, List.getElem?_cons_zero]; exact rfl
      · rfl
      · intro w hSw; (try dsimp only at hSw); go_simp; try with_reducible rfl
      try simp only [Act.put]
      try simp only [List.setIfInBounds_toArray, List.set_cons_zero, List.set_cons_succ]
      refine reg_take 1 ?_ ?_ ?_ (by kernel_rfl) (by kernel_rfl) (by kernel_rfl) (fun _ _ _ h => h) ?_ ?_ (by assumption) ?_
      rotate_left 2
      · simp only [List.getElem?_toArray, List.getElem?_cons_succ, List.getElem?_cons_zero]; exact rfl
      · rfl
      · intro w hSw; (try dsimp only at hSw); go_simp; try with_reducible rfl
      try simp only [Act.put]
      try simp only [List.setIfInBounds_toArray, List.set_cons_zero, List.set_cons_succ]
      refine reg_take 2 ?_ ?_ ?_ (by kernel_rfl) (by kernel_rfl) (by kernel_rfl) (fun _ _ _ h => h) ?_ ?_ (by assumption) ?_
      rotate_left 2
      · simp only [List.getElem?_toArray, List.getElem?_cons_succ, List.getElem?_cons_zero]; exact rfl
      · rfl
      · intro w hSw; (try dsimp only at hSw); go_simp; try with_reducible rfl
      try simp only [Act.put]
      try simp only [List.setIfInBounds_toArray, List.set_cons_zero, List.set_cons_succ]
      refine reg_take 3 ?_ ?_ ?_ (by kernel_rfl) (by kernel_rfl) (by kernel_rfl) (fun _ _ _ h => h) ?_ ?_ (by assumption) ?_
      rotate_left 2
      · simp only [List.getElem?_toArray, List.getElem?_cons_succ, List.getElem?_cons_zero]; exact rfl
      · rfl
      · intro w hSw; (try dsimp only at hSw); go_simp; try with_reducible rfl
      try simp only [Act.put]
      try simp only [List.setIfInBounds_toArray, List.set_cons_zero, List.set_cons_succ]
      refine reg_take 4 ?_ ?_ ?_ (by kernel_rfl) (by kernel_rfl) (by kernel_rfl) (fun _ _ _ h => h) ?_ ?_ (by assumption) ?_
      rotate_left 2
      · simp only [List.getElem?_toArray, List.getElem?_cons_succ, List.getElem?_cons_zero]; exact rfl
      · rfl
      · intro w hSw; (try dsimp only at hSw); go_simp; try with_reducible rfl
      try simp only [Act.put]
      try simp only [List.setIfInBounds_toArray, List.set_cons_zero, List.set_cons_succ]
      refine reg_take 5 ?_ ?_ ?_ (by kernel_rfl) (by kernel_rfl) (by kernel_rfl) (fun _ _ _ h => h) ?_ ?_ (by assumption) ?_
      rotate_left 2
      · simp only [List.getElem?_toArray, List.getElem?_cons_succ, List.getElem?_cons_zero]; exact rfl
      · rfl
      · intro w hSw; (try dsimp only at hSw); go_simp; try with_reducible rfl
      try simp only [Act.put]
      try simp only [List.setIfInBounds_toArray, List.set_cons_zero, List.set_cons_succ]
      refine reg_take 7 ?_ ?_ ?_ (by kernel_rfl) (by kernel_rfl) (by kernel_rfl) (fun _ _ _ h => h) ?_ ?_ (by assumption) ?_
      rotate_left 2
      · simp only [List.getElem?_toArray, List.getElem?_cons_succ, List.getElem?_cons_zero]; exact rfl
      · rfl
      · intro w hSw; (try dsimp only at hSw); go_simp; try with_reducible rfl
      try simp only [Act.put]
      try simp only [List.setIfInBounds_toArray, List.set_cons_zero, List.set_cons_succ]
      refine reg_take 8 ?_ ?_ ?_ (by kernel_rfl) (by kernel_rfl) (by kernel_rfl) (fun _ _ _ h => h) ?_ ?_ (by assumption) ?_
      rotate_left 2
      · simp only [List.getElem?_toArray, List.getElem?_cons_succ, List.getElem?_cons_zero]; exact rfl
      · rfl
      · intro w hSw; (try dsimp only at hSw); go_simp; try with_reducible rfl
      try simp only [Act.put]
      try simp only [List.setIfInBounds_toArray, List.set_cons_zero, List.set_cons_succ]
      refine reg_take 9 ?_ ?_ ?_ (by kernel_rfl) (by kernel_rfl) (by kernel_rfl) (fun _ _ _ h => h) ?_ ?_ (by assumption) ?_
      rotate_left 2
      · simp only [List.getElem?_toArray, List.getElem?_cons_succ, List.getElem?_cons_zero]; exact rfl
      · rfl
      · intro w hSw; (try dsimp only at hSw); go_simp; try with_reducible rfl
      try simp only [Act.put]
      try simp only [List.setIfInBounds_toArray, List.set_cons_zero, List.set_cons_succ]
      refine reg_take 10 ?_ ?_ ?_ (by kernel_rfl) (by kernel_rfl) (by kernel_rfl) (fun _ _ _ h => h) ?_ ?_ (by assumption) ?_
      rotate_left 2
      · simp only [List.getElem?_toArray, List.getElem?_cons_succ, List.getElem?_cons_zero]; exact rfl
      · rfl
      · intro w hSw; (try dsimp only at hSw); go_simp; try with_reducible rfl
      try simp only [Act.put]
      try simp only [List.setIfInBounds_toArray, List.set_cons_zero, List.set_cons_succ]
      refine reg_take 11 ?_ ?_ ?_ (by kernel_rfl) (by kernel_rfl) (by kernel_rfl) (fun _ _ _ h => h) ?_ ?_ (by assumption) ?_
      rotate_left 2
      · simp only [List.getElem?_toArray, List.getElem?_cons_succ, List.getElem?_cons_zero]; exact rfl
      · rfl
      · intro w hSw; (try dsimp only at hSw); go_simp; try with_reducible rfl
      try simp only [Act.put]
      try simp only [List.setIfInBounds_toArray, List.set_cons_zero, List.set_cons_succ]
      refine reg_take 12 ?_ ?_ ?_ (by kernel_rfl) (by kernel_rfl) (by kernel_rfl) (fun _ _ _ h => h) ?_ ?_ (by assumption) ?_
      rotate_left 2
      · simp only [List.getElem?_toArray, List.getElem?_cons_succ, List.getElem?_cons_zero]; exact rfl
      · rfl
      · intro w hSw; (try dsimp only at hSw); go_simp; try with_reducible rfl
      try simp only [Act.put]
      try simp only [List.setIfInBounds_toArray, List.set_cons_zero, List.set_cons_succ]
      refine reg_call 6 ?_ (by kernel_rfl) ?_ (fun K hK => ?_)
      rotate_left 1
      · simp only [List.getElem?_toArray, List.getElem?_cons_succ, List.getElem?_cons_zero]; exact rfl
      go_simp
      refine (mix_mag _ _ n m A C x0 y0 _ (by omega) (by omega) ax_5 bx_5 HX0.out HY0.out E1.out).mono ?_
      rintro e w5 ⟨v1, rfl, h1_0, hb5⟩
      have hB_6 := hB_5.trans (hb5.mono hB_5.size)
      have ax_6 := ax_5.below hb5
      have bx_6 := bx_5.below hb5
      have bq_6 := bq_5.below hb5
      have px_2 := px_1.below hb5
      have py_2 := py_1.below hb5
      clear hb5 hB_5 ax_5 bx_5 bq_5 px_1 py_1
      go_wp2_with fail
      refine hK.out _ _ ⟨px_2.c0, px_2.c1, py_2.c0, py_2.c1⟩ (fun hHeld => ?_)
      clear hK K
      try simp only [Act.put]
      try simp only [List.setIfInBounds_toArray, List.set_cons_zero, List.set_cons_succ]
      refine reg_call 13 ?_ (by kernel_rfl) ?_ (fun K hK => ?_)
      rotate_left 1
      · simp only [List.getElem?_toArray, List.getElem?_cons_succ, List.getElem?_cons_zero]; exact rfl
      go_simp
      refine (mix_mag _ _ m n C A y1 x1 _ (by omega) (by omega) bx_6 ax_6 HY1.out HX1.out E2.out).mono ?_
      rintro e w6 ⟨v2, rfl, h2_0, hb6⟩
      have hB_7 := hB_6.trans (hb6.mono hB_6.size)
      have ax_7 := ax_6.below hb6
      have bx_7 := bx_6.below hb6
      have bq_7 := bq_6.below hb6
      have px_3 := px_2.below hb6
      have py_3 := py_2.below hb6
      have h1_1 := h1_0.below hb6
      clear hb6 hB_6 ax_6 bx_6 bq_6 px_2 py_2 h1_0
      go_wp2_with fail
      refine hK.out _ _ ⟨px_3.c0, px_3.c1, py_3.c0, py_3.c1⟩ (fun hHeld => ?_)
      clear hK K
      try simp only [Act.put]
      try simp only [List.setIfInBounds_toArray, List.set_cons_zero, List.set_cons_succ]
      refine reg_take 14 ?_ ?_ ?_ (by kernel_rfl) (by kernel_rfl) (by kernel_rfl) (fun _ _ _ h => h) ?_ ?_ (by assumption) ?_
      rotate_left 2
      · simp only [List.getElem?_toArray, List.getElem?_cons_succ, List.getElem?_cons_zero]; exact rfl
      · rfl
      · intro w hSw; (try dsimp only at hSw); go_simp; try with_reducible rfl
      try simp only [Act.put]
      try simp only [List.setIfInBounds_toArray, List.set_cons_zero, List.set_cons_succ]
      refine reg_take 15 ?_ ?_ ?_ (by kernel_rfl) (by kernel_rfl) (by kernel_rfl) (fun _ _ _ h => h) ?_ ?_ (by assumption) ?_
      rotate_left 2
      · simp only [List.getElem?_toArray, List.getElem?_cons_succ, List.getElem?_cons_zero]; exact rfl
      · rfl
      · intro w hSw; (try dsimp only at hSw); go_simp; try with_reducible rfl
      try simp only [Act.put]
      try simp only [List.setIfInBounds_toArray, List.set_cons_zero, List.set_cons_succ]
      refine wpAnyH_done (by kernel_rfl) ?_ _
      refine NoPanic.normal ?_
      go_wp2
      go_ret2
      have hlt := ax_7.lt
      have hP := HPL.out
      have hQ := HQP.out
      exact ⟨_, _, P, Q, rfl, (E3.out ▸ h1_1).short (by omega), (E4.out ▸ h2_0).short (by omega), hQ, HG.out, HLS.out, hP, hB_7⟩
    | true =>
      obtain ⟨r1, r2⟩ := ho rfl
      clear he ho
      have E1 := Lib.hid (show A * x0 ≤ C * y0 by rw [Nat.mul_comm C, Nat.mul_comm A]; omega)
      have E2 := Lib.hid (show C * y1 ≤ A * x1 by rw [Nat.mul_comm C, Nat.mul_comm A]; omega)
      have E3 := Lib.hid (show C * y0 - A * x0 = P by rw [Nat.mul_comm C, Nat.mul_comm A]; omega)
      have E4 := Lib.hid (show A * x1 - C * y1 = Q by rw [Nat.mul_comm C, Nat.mul_comm A]; omega)
      clear r1 r2
      have hmn : m ≤ n := HMN2.out
      go_wp2
      obtain ⟨px_0, py_0, hb4⟩ := boxed2 w3 (.int .u64 (x0 : Int)) (.int .u64 (x1 : Int)) (.int .u64 (y0 : Int)) (.int .u64 (y1 : Int)) 115
      have hB_4 := hB_3.trans (hb4.mono hB_3.size)
      have ax_4 := ax_3.below hb4
      have bx_4 := bx_3.below hb4
      have bq_4 := bq_3.below hb4
      clear hb4 hB_3 ax_3 bx_3 bq_3
      generalize ((w3.alloc (Obj.cells #[Value.int .u64 (x0 : Int), Value.int .u64 (x1 : Int)] 115)).alloc (Obj.cells #[Value.int .u64 (y0 : Int), Value.int .u64 (y1 : Int)] 115)) = w4 at *
      have hB_5 := hB_4.drew'
      have ax_5 := ax_4.drew
      have bx_5 := bx_4.drew
      have bq_5 := bq_4.drew
      have px_1 := px_0.drew
      have py_1 := py_0.drew
      refine wp_region_noPanic ?_
      refine wp_region_held_drew (S := fun w' => w'.cell? ⟨w3.heap.size, 0, none⟩ = some (.int .u64 (x0 : Int)) ∧ w'.cell? ⟨w3.heap.size, 1, none⟩ = some (.int .u64 (x1 : Int)) ∧ w'.cell? ⟨w3.heap.size + 1, 0, none⟩ = some (.int .u64 (y0 : Int)) ∧ w'.cell? ⟨w3.heap.size + 1, 1, none⟩ = some (.int .u64 (y1 : Int))) (by kernel_rfl) (⟨px_1.c0, px_1.c1, py_1.c0, py_1.c1⟩) (fun hHeld => ?_)
      refine reg_take 0 ?_ ?_ ?_ (by kernel_rfl) (by kernel_rfl) (by kernel_rfl) (fun _ _ _ h => h) ?_ ?_ (by assumption) ?_
      rotate_left 2
      · simp only [List.getElem?_toArray, List.getElem?_cons_zero]; exact rfl
      · rfl
      · intro w hSw; (try dsimp only at hSw); go_simp; try with_reducible rfl
      try simp only [Act.put]
      try simp only [List.setIfInBounds_toArray, List.set_cons_zero, List.set_cons_succ]
      refine reg_take 1 ?_ ?_ ?_ (by kernel_rfl) (by kernel_rfl) (by kernel_rfl) (fun _ _ _ h => h) ?_ ?_ (by assumption) ?_
      rotate_left 2
      · simp only [List.getElem?_toArray, List.getElem?_cons_succ, List.getElem?_cons_zero]; exact rfl
      · rfl
      · intro w hSw; (try dsimp only at hSw); go_simp; try with_reducible rfl
      try simp only [Act.put]
      try simp only [List.setIfInBounds_toArray, List.set_cons_zero, List.set_cons_succ]
      refine reg_take 2 ?_ ?_ ?_ (by kernel_rfl) (by kernel_rfl) (by kernel_rfl) (fun _ _ _ h => h) ?_ ?_ (by assumption) ?_
      rotate_left 2
      · simp only [List.getElem?_toArray, List.getElem?_cons_succ, List.getElem?_cons_zero]; exact rfl
      · rfl
      · intro w hSw; (try dsimp only at hSw); go_simp; try with_reducible rfl
      try simp only [Act.put]
      try simp only [List.setIfInBounds_toArray, List.set_cons_zero, List.set_cons_succ]
      refine reg_take 3 ?_ ?_ ?_ (by kernel_rfl) (by kernel_rfl) (by kernel_rfl) (fun _ _ _ h => h) ?_ ?_ (by assumption) ?_
      rotate_left 2
      · simp only [List.getElem?_toArray, List.getElem?_cons_succ, List.getElem?_cons_zero]; exact rfl
      · rfl
      · intro w hSw; (try dsimp only at hSw); go_simp; try with_reducible rfl
      try simp only [Act.put]
      try simp only [List.setIfInBounds_toArray, List.set_cons_zero, List.set_cons_succ]
      refine reg_take 4 ?_ ?_ ?_ (by kernel_rfl) (by kernel_rfl) (by kernel_rfl) (fun _ _ _ h => h) ?_ ?_ (by assumption) ?_
      rotate_left 2
      · simp only [List.getElem?_toArray, List.getElem?_cons_succ, List.getElem?_cons_zero]; exact rfl
      · rfl
      · intro w hSw; (try dsimp only at hSw); go_simp; try with_reducible rfl
      try simp only [Act.put]
      try simp only [List.setIfInBounds_toArray, List.set_cons_zero, List.set_cons_succ]
      refine reg_take 5 ?_ ?_ ?_ (by kernel_rfl) (by kernel_rfl) (by kernel_rfl) (fun _ _ _ h => h) ?_ ?_ (by assumption) ?_
      rotate_left 2
      · simp only [List.getElem?_toArray, List.getElem?_cons_succ, List.getElem?_cons_zero]; exact rfl
      · rfl
      · intro w hSw; (try dsimp only at hSw); go_simp; try with_reducible rfl
      try simp only [Act.put]
      try simp only [List.setIfInBounds_toArray, List.set_cons_zero, List.set_cons_succ]
      refine reg_take 7 ?_ ?_ ?_ (by kernel_rfl) (by kernel_rfl) (by kernel_rfl) (fun _ _ _ h => h) ?_ ?_ (by assumption) ?_
      rotate_left 2
      · simp only [List.getElem?_toArray, List.getElem?_cons_succ, List.getElem?_cons_zero]; exact rfl
      · rfl
      · intro w hSw; (try dsimp only at hSw); go_simp; try with_reducible rfl
      try simp only [Act.put]
      try simp only [List.setIfInBounds_toArray, List.set_cons_zero, List.set_cons_succ]
      refine reg_take 8 ?_ ?_ ?_ (by kernel_rfl) (by kernel_rfl) (by kernel_rfl) (fun _ _ _ h => h) ?_ ?_ (by assumption) ?_
      rotate_left 2
      · simp only [List.getElem?_toArray, List.getElem?_cons_succ, List.getElem?_cons_zero]; exact rfl
      · rfl
      · intro w hSw; (try dsimp only at hSw); go_simp; try with_reducible rfl
      try simp only [Act.put]
      try simp only [List.setIfInBounds_toArray, List.set_cons_zero, List.set_cons_succ]
      refine reg_take 9 ?_ ?_ ?_ (by kernel_rfl) (by kernel_rfl) (by kernel_rfl) (fun _ _ _ h => h) ?_ ?_ (by assumption) ?_
      rotate_left 2
      · simp only [List.getElem?_toArray, List.getElem?_cons_succ, List.getElem?_cons_zero]; exact rfl
      · rfl
      · intro w hSw; (try dsimp only at hSw); go_simp; try with_reducible rfl
      try simp only [Act.put]
      try simp only [List.setIfInBounds_toArray, List.set_cons_zero, List.set_cons_succ]
      refine reg_take 10 ?_ ?_ ?_ (by kernel_rfl) (by kernel_rfl) (by kernel_rfl) (fun _ _ _ h => h) ?_ ?_ (by assumption) ?_
      rotate_left 2
      · simp only [List.getElem?_toArray, List.getElem?_cons_succ, List.getElem?_cons_zero]; exact rfl
      · rfl
      · intro w hSw; (try dsimp only at hSw); go_simp; try with_reducible rfl
      try simp only [Act.put]
      try simp only [List.setIfInBounds_toArray, List.set_cons_zero, List.set_cons_succ]
      refine reg_take 11 ?_ ?_ ?_ (by kernel_rfl) (by kernel_rfl) (by kernel_rfl) (fun _ _ _ h => h) ?_ ?_ (by assumption) ?_
      rotate_left 2
      · simp only [List.getElem?_toArray, List.getElem?_cons_succ, List.getElem?_cons_zero]; exact rfl
      · rfl
      · intro w hSw; (try dsimp only at hSw); go_simp; try with_reducible rfl
      try simp only [Act.put]
      try simp only [List.setIfInBounds_toArray, List.set_cons_zero, List.set_cons_succ]
      refine reg_take 12 ?_ ?_ ?_ (by kernel_rfl) (by kernel_rfl) (by kernel_rfl) (fun _ _ _ h => h) ?_ ?_ (by assumption) ?_
      rotate_left 2
      · simp only [List.getElem?_toArray, List.getElem?_cons_succ, List.getElem?_cons_zero]; exact rfl
      · rfl
      · intro w hSw; (try dsimp only at hSw); go_simp; try with_reducible rfl
      try simp only [Act.put]
      try simp only [List.setIfInBounds_toArray, List.set_cons_zero, List.set_cons_succ]
      refine reg_call 6 ?_ (by kernel_rfl) ?_ (fun K hK => ?_)
      rotate_left 1
      · simp only [List.getElem?_toArray, List.getElem?_cons_succ, List.getElem?_cons_zero]; exact rfl
      go_simp
      refine (mix_mag _ _ m n C A y0 x0 _ (by omega) (by omega) bx_5 ax_5 HY0.out HX0.out E1.out).mono ?_
      rintro e w5 ⟨v1, rfl, h1_0, hb5⟩
      have hB_6 := hB_5.trans (hb5.mono hB_5.size)
      have ax_6 := ax_5.below hb5
      have bx_6 := bx_5.below hb5
      have bq_6 := bq_5.below hb5
      have px_2 := px_1.below hb5
      have py_2 := py_1.below hb5
      clear hb5 hB_5 ax_5 bx_5 bq_5 px_1 py_1
      go_wp2_with fail
      refine hK.out _ _ ⟨px_2.c0, px_2.c1, py_2.c0, py_2.c1⟩ (fun hHeld => ?_)
      clear hK K
      try simp only [Act.put]
      try simp only [List.setIfInBounds_toArray, List.set_cons_zero, List.set_cons_succ]
      refine reg_call 13 ?_ (by kernel_rfl) ?_ (fun K hK => ?_)
      rotate_left 1
      · simp only [List.getElem?_toArray, List.getElem?_cons_succ, List.getElem?_cons_zero]; exact rfl
      go_simp
      refine (mix_mag _ _ n m A C x1 y1 _ (by omega) (by omega) ax_6 bx_6 HX1.out HY1.out E2.out).mono ?_
      rintro e w6 ⟨v2, rfl, h2_0, hb6⟩
      have hB_7 := hB_6.trans (hb6.mono hB_6.size)
      have ax_7 := ax_6.below hb6
      have bx_7 := bx_6.below hb6
      have bq_7 := bq_6.below hb6
      have px_3 := px_2.below hb6
      have py_3 := py_2.below hb6
      have h1_1 := h1_0.below hb6
      clear hb6 hB_6 ax_6 bx_6 bq_6 px_2 py_2 h1_0
      go_wp2_with fail
      refine hK.out _ _ ⟨px_3.c0, px_3.c1, py_3.c0, py_3.c1⟩ (fun hHeld => ?_)
      clear hK K
      try simp only [Act.put]
      try simp only [List.setIfInBounds_toArray, List.set_cons_zero, List.set_cons_succ]
      refine reg_take 14 ?_ ?_ ?_ (by kernel_rfl) (by kernel_rfl) (by kernel_rfl) (fun _ _ _ h => h) ?_ ?_ (by assumption) ?_
      rotate_left 2
      · simp only [List.getElem?_toArray, List.getElem?_cons_succ, List.getElem?_cons_zero]; exact rfl
      · rfl
      · intro w hSw; (try dsimp only at hSw); go_simp; try with_reducible rfl
      try simp only [Act.put]
      try simp only [List.setIfInBounds_toArray, List.set_cons_zero, List.set_cons_succ]
      refine reg_take 15 ?_ ?_ ?_ (by kernel_rfl) (by kernel_rfl) (by kernel_rfl) (fun _ _ _ h => h) ?_ ?_ (by assumption) ?_
      rotate_left 2
      · simp only [List.getElem?_toArray, List.getElem?_cons_succ, List.getElem?_cons_zero]; exact rfl
      · rfl
      · intro w hSw; (try dsimp only at hSw); go_simp; try with_reducible rfl
      try simp only [Act.put]
      try simp only [List.setIfInBounds_toArray, List.set_cons_zero, List.set_cons_succ]
      refine wpAnyH_done (by kernel_rfl) ?_ _
      refine NoPanic.normal ?_
      go_wp2
      go_ret2
      have hlt := ax_7.lt
      have hP := HPL.out
      have hQ := HQP.out
      exact ⟨_, _, P, Q, rfl, (E3.out ▸ h1_1).short (by omega), (E4.out ▸ h2_0).short (by omega), hQ, HG.out, HLS.out, hP, hB_7⟩
end Go.Proofs.Ytkcfaddilknelaa
