/- Two words divided by one. -/
import Derived.Test.YtjciefoademlnaaPartf
import Derived.Deep.DeepCutAuto
import Derived.Deep.CutBlock
import Derived.Test.YtjciefoademlnaaKit
namespace Go.Proofs.Ytjciefoademlnaa
open Go.RowKit Go.MagM
end Go.Proofs.Ytjciefoademlnaa
/- Plain mathematics of long division: the guess, one word of the quotient, the whole. No program. -/
namespace Go.MagM
/-- What holds of a guess of a quotient's word: un B + u1 by y = y1 B + y0. -/
structure Full (y1 y0 un u1 q1 rh : Nat) : Prop where
  b0 : y0 < B
  b1 : u1 < B
  b2 : y1 < B
  lt : un < y1 * B + y0
  sum : q1 * y1 + rh = un
  ge : (un * B + u1) / (y1 * B + y0) ≤ q1
theorem full_mul (q1 y1 y0 : Nat) : q1 * (y1 * B + y0) = q1 * y1 * B + q1 * y0 := by rw [Nat.mul_add, Nat.mul_assoc]
theorem Full.quot_lt {y1 y0 un u1 q1 rh : Nat} (h : Full y1 y0 un u1 q1 rh) : (un * B + u1) / (y1 * B + y0) < B := by
  apply Nat.div_lt_of_lt_mul
  have h1 := Nat.mul_le_mul_right B (show un + 1 ≤ y1 * B + y0 from h.lt)
  have := h.b1
  rw [Nat.add_mul] at h1; omega
theorem Full.start {y1 y0 un u1 : Nat} (h0 : y0 < B) (h1 : u1 < B) (h2 : y1 < B) (h3 : 0 < y1) (hl : un < y1 * B + y0) : Full y1 y0 un u1 (un / y1) (un % y1) := by
  refine ⟨h0, h1, h2, hl, by have := Nat.div_add_mod un y1; rw [Nat.mul_comm] at this; exact this, ?_⟩
  have e : un / y1 = (un * B + u1) / (y1 * B) := by
    rw [Nat.mul_comm y1 B, ← Nat.div_div_eq_div_mul, Nat.mul_comm un B, Nat.mul_add_div (by unfold B; omega), Nat.div_eq_of_lt h1, Nat.add_zero]
  rw [e]
  exact Nat.div_le_div_left (by omega) (Nat.mul_pos h3 (by unfold B; omega))
theorem Full.next {y1 y0 un u1 q1 rh : Nat} (h : Full y1 y0 un u1 q1 rh) (hc : B ≤ q1 ∨ rh * B + u1 < q1 * y0) : 1 ≤ q1 ∧ Full y1 y0 un u1 (q1 - 1) (rh + y1) := by
  have hq : (un * B + u1) / (y1 * B + y0) < q1 := by
    rcases hc with hc | hc
    · have := h.quot_lt; omega
    · have hy : 0 < y1 * B + y0 := by have := h.lt; omega
      rw [Nat.div_lt_iff_lt_mul hy, full_mul]
      have h1 : q1 * y1 * B + rh * B = un * B := by rw [← Nat.add_mul, h.sum]
      omega
  have h1 : 1 ≤ q1 := Nat.lt_of_le_of_lt (Nat.zero_le _) hq
  refine ⟨h1, h.b0, h.b1, h.b2, h.lt, ?_, Nat.le_sub_one_of_lt hq⟩
  have e : (q1 - 1) * y1 + y1 = q1 * y1 := by
    obtain ⟨d, rfl⟩ : ∃ d, q1 = d + 1 := ⟨q1 - 1, by omega⟩
    rw [Nat.add_mul]; simp
  have := h.sum; omega
theorem Full.done {y1 y0 un u1 q1 rh : Nat} (h : Full y1 y0 un u1 q1 rh) (hc : B ≤ rh ∨ (q1 < B ∧ q1 * y0 ≤ rh * B + u1)) : q1 = (un * B + u1) / (y1 * B + y0) := by
  apply Nat.le_antisymm _ h.ge
  have hy : 0 < y1 * B + y0 := by have := h.lt; omega
  rw [Nat.le_div_iff_mul_le hy, full_mul]
  have h1 : q1 * y1 * B + rh * B = un * B := by rw [← Nat.add_mul, h.sum]
  rcases hc with hc | hc
  · have hq : q1 < B := by
      rcases Nat.lt_or_ge q1 B with a | a
      · exact a
      · exfalso
        have h2 := Nat.mul_le_mul_right y1 a
        have h3 := h.sum; have h4 := h.lt; have h5 := h.b0
        rw [Nat.mul_comm B y1] at h2; omega
    have h2 := Nat.mul_le_mul_right B hc
    have h3 := Nat.mul_le_mul (show q1 ≤ B by omega) (show y0 ≤ B by have := h.b0; omega)
    omega
  · omega
theorem full_quot_lt {un u1 y : Nat} (hu : u1 < B) (h : un < y) : (un * B + u1) / y < B := by
  apply Nat.div_lt_of_lt_mul
  have h1 := Nat.mul_le_mul_right B (show un + 1 ≤ y from h)
  rw [Nat.add_mul] at h1; omega

/-- What a guess from the highest words is good for: right, or too great by 1. -/
def GoodQ (g U D : Nat) : Prop := U / D ≤ g ∧ g ≤ U / D + 1
theorem good_of_quot {T D2 P Ul Dl : Nat} (hP : 0 < P) (hD : B ≤ D2) (hU : Ul < P) (hDl : Dl < P) (hg : T / D2 < B) : GoodQ (T / D2) (T * P + Ul) (D2 * P + Dl) := by
  have hD0 : 0 < D2 := by have := B_pos; omega
  have hDP : 0 < D2 * P := Nat.mul_pos hD0 hP
  constructor
  · have h1 : (T * P + Ul) / (D2 * P + Dl) ≤ (T * P + Ul) / (D2 * P) := Nat.div_le_div_left (by omega) hDP
    have h2 : (T * P + Ul) / (D2 * P) = T / D2 := by
      rw [Nat.mul_comm D2 P, ← Nat.div_div_eq_div_mul, Nat.mul_comm T P, Nat.mul_add_div hP, Nat.div_eq_of_lt hU, Nat.add_zero]
    omega
  · obtain ⟨g, hge⟩ : ∃ g, T / D2 = g := ⟨_, rfl⟩
    rw [hge] at hg ⊢
    cases g with
    | zero => exact Nat.zero_le _
    | succ g =>
      have h1 : (g + 1) * D2 ≤ T := by rw [← hge]; exact Nat.div_mul_le_self T D2
      have h2 := Nat.mul_le_mul_right P h1
      have h3 : g ≤ (T * P + Ul) / (D2 * P + Dl) := by
        rw [Nat.le_div_iff_mul_le (by omega), Nat.mul_add]
        have h4 := Nat.mul_le_mul_left g (show Dl ≤ P by omega)
        have h5 := Nat.mul_le_mul_right P (show g ≤ D2 by omega)
        rw [Nat.add_mul, Nat.add_mul, Nat.one_mul, Nat.mul_assoc] at h2
        omega
      omega
theorem good_of_max {x y b c P Ul Dl : Nat} (hP : 0 < P) (hx : B ≤ 2 * x) (hy : y < B) (hDl : Dl < P) (hlt : (x * B * B + b * B + c) * P + Ul < ((x * B + y) * P + Dl) * B) : GoodQ (B - 1) ((x * B * B + b * B + c) * P + Ul) ((x * B + y) * P + Dl) := by
  have hD0 : 0 < (x * B + y) * P + Dl := by
    have : 0 < x * B := Nat.mul_pos (by have := B_pos; omega) B_pos
    have := Nat.mul_pos (show 0 < x * B + y by omega) hP
    omega
  constructor
  · have := (Nat.div_lt_iff_lt_mul hD0).2 (show (x * B * B + b * B + c) * P + Ul < B * ((x * B + y) * P + Dl) by rw [Nat.mul_comm B]; exact hlt)
    omega
  · have h : B - 2 ≤ ((x * B * B + b * B + c) * P + Ul) / ((x * B + y) * P + Dl) := by
      rw [Nat.le_div_iff_mul_le hD0]
      -- (B - 2) D ≤ x B B P
      have h1 : (B - 2) * ((x * B + y) * P + Dl) ≤ (B - 2) * ((x * B + y + 1) * P) := by
        apply Nat.mul_le_mul_left
        rw [Nat.add_mul _ 1 P]; omega
      have h2 : (B - 2) * (x * B + y + 1) ≤ x * B * B := by
        have h3 : (B - 2) * (x * B + y + 1) ≤ (B - 2) * (x * B + B) := Nat.mul_le_mul_left _ (by omega)
        have h4 : (B - 2) * (x * B + B) = (B - 2) * (x + 1) * B := by rw [Nat.mul_assoc, Nat.add_mul, Nat.one_mul]
        have h5 : (B - 2) * (x + 1) ≤ x * B := by
          rw [Nat.mul_add, Nat.mul_one, Nat.sub_mul, Nat.mul_comm x B]
          have : 2 * x ≤ B * x := Nat.mul_le_mul_right x (by unfold B; omega)
          omega
        have h6 := Nat.mul_le_mul_right B h5
        omega
      have h7 := Nat.mul_le_mul_right P h2
      rw [Nat.mul_assoc] at h7
      have h8 : x * B * B * P ≤ (x * B * B + b * B + c) * P := Nat.mul_le_mul_right P (by omega)
      omega
    omega
/-- One word of the quotient: what was taken, and whether it was too much. -/
theorem take_low {R0 r D g over F P U : Nat} (hg : GoodQ g U D) (hD : 0 < D) (hDP : D < P) (hU : U = R0 + r * P) (_hF : F < P) (h : F + D * g = R0 + over * P) (ho : over ≤ r) : g = U / D ∧ r = over ∧ F = U % D := by
  have e := Nat.div_add_mod U D
  have hl := Nat.mod_lt U hD
  have h1 : g ≤ U / D := by
    rw [Nat.le_div_iff_mul_le hD, Nat.mul_comm]
    have := Nat.mul_le_mul_right P ho; omega
  have h2 : g = U / D := Nat.le_antisymm h1 hg.1
  rw [← h2] at e
  have h3 : r = over := by
    rcases Nat.lt_or_ge over r with a | a
    · exfalso
      have := Nat.mul_le_mul_right P (show over + 1 ≤ r from a)
      rw [Nat.add_mul] at this; omega
    · omega
  subst h3
  exact ⟨h2, rfl, by omega⟩
theorem take_high {R0 r D g over F F2 cc P U : Nat} (hg : GoodQ g U D) (hD : 0 < D) (hDP : D < P) (hU : U = R0 + r * P) (hF : F < P) (hF2 : F2 < P) (h : F + D * g = R0 + over * P) (ho : r < over) (hcc : cc ≤ 1) (ha : F2 + cc * P = F + D) :
    1 ≤ g ∧ g - 1 = U / D ∧ F2 = U % D := by
  have e := Nat.div_add_mod U D
  have hl := Nat.mod_lt U hD
  have h1 : U < D * g := by
    have := Nat.mul_le_mul_right P (show r + 1 ≤ over from ho)
    rw [Nat.add_mul] at this; omega
  have h2 : U / D < g := by rw [Nat.div_lt_iff_lt_mul hD, Nat.mul_comm]; exact h1
  have h3 : g = U / D + 1 := by have := hg.2; omega
  rw [h3, Nat.mul_add, Nat.mul_one] at h
  -- U % D = U - D (U / D) = r P - over P + F + D
  generalize U / D = qq at *
  generalize U % D = rr at *
  have h4 : rr + over * P = F + D + r * P := by omega
  have h5 : over = r + 1 := by
    rcases Nat.lt_or_ge (r + 1) over with a | a
    · exfalso
      have := Nat.mul_le_mul_right P (show r + 2 ≤ over from a)
      rw [Nat.add_mul] at this; omega
    · omega
  rw [h5, Nat.add_mul, Nat.one_mul] at h4
  have h6 : cc = 1 := by
    have : cc = 0 ∨ cc = 1 := by omega
    rcases this with rfl | rfl
    · exfalso; omega
    · rfl
  rw [h6] at ha
  exact ⟨by omega, by omega, by omega⟩
/-- One round of long division. -/
theorem long_step {A Q D W Lo Pk : Nat} (hD : 0 < D) (hlo : Lo < Pk) (h : A = Q * (Pk * B) * D + (Lo + Pk * W)) :
    A = (Q * B + W / D) * Pk * D + (Lo + Pk * (W % D)) ∧ Lo + Pk * (W % D) < Pk * D := by
  have e := Nat.div_add_mod W D
  have hl := Nat.mod_lt W hD
  constructor
  · have h1 : Pk * W = Pk * (D * (W / D)) + Pk * (W % D) := by rw [← Nat.mul_add, e]
    have h2 : (Q * B + W / D) * Pk * D = Q * (Pk * B) * D + Pk * (D * (W / D)) := by
      rw [Nat.add_mul, Nat.add_mul]
      congr 1
      · congr 1; rw [Nat.mul_assoc, Nat.mul_comm B Pk]
      · rw [Nat.mul_comm (W / D) Pk, Nat.mul_assoc, Nat.mul_comm (W / D) D]
    omega
  · have := Nat.mul_le_mul_left Pk (show W % D + 1 ≤ D from hl)
    rw [Nat.mul_add] at this; omega
/-- Both moved up: quotient and rest. -/
theorem long_end {a b Q R s : Nat} (hb : 0 < b) (h : a * 2 ^ s = Q * (b * 2 ^ s) + R) (hR : R < b * 2 ^ s) : Q = a / b ∧ R / 2 ^ s = a % b := by
  have hp : 0 < 2 ^ s := Nat.pow_pos (by omega)
  have hbs : 0 < b * 2 ^ s := Nat.mul_pos hb hp
  have h1 : a * 2 ^ s / (b * 2 ^ s) = Q := by
    rw [h, Nat.mul_comm Q, Nat.mul_add_div hbs, Nat.div_eq_of_lt hR, Nat.add_zero]
  have h2 : a * 2 ^ s % (b * 2 ^ s) = R := by
    rw [h, Nat.mul_comm Q, Nat.mul_add_mod, Nat.mod_eq_of_lt hR]
  rw [Nat.mul_div_mul_right _ _ hp] at h1
  rw [Nat.mul_mod_mul_right] at h2
  exact ⟨h1.symm, by rw [← h2, Nat.mul_div_cancel _ hp]⟩
/-- The lowest word, and the others. -/
theorem V_low (f : Nat → Nat) (k m : Nat) : V (fun i => f (k + i)) (m + 1) = f k + B * V (fun i => f (k + 1 + i)) m := by
  have := V_split (fun i => f (k + i)) 1 m
  rw [Nat.add_comm 1 m, V_one, Nat.pow_one] at this
  simp only [Nat.add_zero] at this
  rw [this]; simp only [Nat.add_assoc]
end Go.MagM
/- The guess of a word of the quotient. -/
namespace Go.Proofs.Ytjciefoademlnaa
open Go.RowKit Go.MagM
end Go.Proofs.Ytjciefoademlnaa
/- One word of the quotient: taken away as often as can be. -/
namespace Go.Proofs.Ytjciefoademlnaa
open Go.RowKit Go.MagM
theorem V_top2 (h : Nat → Nat) (d : Nat) : V h (d + 2) = (h (d + 1) * B + h d) * B ^ d + V h d := by
  rw [V_succ, V_succ, Nat.pow_succ, Nat.add_mul, Nat.mul_assoc, Nat.mul_comm B]; omega
theorem V_top3 (f : Nat → Nat) (d : Nat) : V f (d + 3) = ((f (d + 2) * B + f (d + 1)) * B + f d) * B ^ d + V f d := by
  rw [V_succ, V_top2, Nat.add_mul, Nat.add_mul, Nat.add_mul, Nat.pow_succ, Nat.pow_succ, Nat.add_mul (_ * B)]
  have e1 : f (d + 2) * (B ^ d * B * B) = f (d + 2) * B * B * B ^ d := by
    rw [Nat.mul_assoc (f (d + 2)), Nat.mul_assoc (f (d + 2)), Nat.mul_assoc (B ^ d), Nat.mul_comm (B ^ d) (B * B)]
  omega
end Go.Proofs.Ytjciefoademlnaa
/- Div: quotient and rest. -/
namespace Go.Proofs.Ytjciefoademlnaa
open Go.RowKit Go.MagM
theorem word_step {fk Vf Vq x r d r' : Nat} (h : Vf = Vq * x + r) (hd : d = (r * B + fk) / x) (hr : r' = (r * B + fk) % x) : fk + B * Vf = (d + B * Vq) * x + r' := by
  have e := Nat.div_add_mod (r * B + fk) x
  rw [← hd, ← hr] at e
  rw [h, Nat.mul_add, Nat.add_mul, Nat.mul_assoc B Vq x, Nat.mul_comm B r, Nat.mul_comm d x]; omega
end Go.Proofs.Ytjciefoademlnaa
/- Division by two words or more. -/
namespace Go.Proofs.Ytjciefoademlnaa
open Go.RowKit Go.MagM
theorem Below.of_turn {g o n M : Nat} {w0 w w' : World} (hb : Below M w0 w) (h : Turn g o n w w') (hg : M ≤ g) (hm : M ≤ w.heap.size) : Below M w0 w' := h.below hb hg hm
/-- The divisor's highest word, moved up, has its highest bit. -/
theorem top_bit {x y s : Nat} (hx : x ≠ 0) (hxB : x < B) (hs : 64 - bl x = s) : B ≤ 2 * (x * 2 ^ s % B + y * 2 ^ s / B) ∧ s < 64 ∧ x * 2 ^ s < B := by
  have h1 := bl_lt x; have h2 := bl_ge hx; have h3 := bl_pos hx
  have h4 : bl x ≤ 64 := by
    have := (Nat.pow_lt_pow_iff_right (show 1 < 2 by omega)).1 (show 2 ^ (bl x - 1) < 2 ^ 64 by unfold B at hxB; omega)
    omega
  have hp : 0 < 2 ^ s := Nat.pow_pos (by omega)
  have h5 := Nat.mul_lt_mul_of_pos_right h1 hp
  rw [← Nat.pow_add, show bl x + s = 64 from by omega] at h5
  have h6 := Nat.mul_le_mul_right (2 ^ s) h2
  rw [← Nat.pow_add, show bl x - 1 + s = 63 from by omega] at h6
  have h7 : x * 2 ^ s < B := h5
  rw [Nat.mod_eq_of_lt h7]
  refine ⟨?_, by omega, h7⟩
  have h8 : B = 2 * 2 ^ 63 := rfl
  generalize y * 2 ^ s / B = z
  omega
theorem spl_V' (f h : Nat → Nat) (k d : Nat) : V (spl f h k (d + 3)) (k + (d + 2)) = V f k + B ^ k * V h (d + 2) := by
  rw [V_split, V_congr (g := f) (fun i hi => spl_out f h (.inl hi)), V_congr (f := fun i => spl f h k (d + 3) (k + i)) (g := h) (fun i hi => spl_in f h (by omega))]
end Go.Proofs.Ytjciefoademlnaa
/- Div, and what the statements' own helpers answer. -/
namespace Go.Proofs.Ytjciefoademlnaa
open Go.RowKit Go.MagM
end Go.Proofs.Ytjciefoademlnaa
/- Numbers with a sign: what a value is; boxes of two values. Over any program. -/
namespace Go.RowKit
theorem Below.drewN' {M : Nat} {w w' : World} (h : Below M w w') (n : Nat) : Below M w (w'.drewN n) := ⟨h.os, h.tape, h.output, h.size, h.block⟩
theorem Below.drew' {M : Nat} {w w' : World} (h : Below M w w') : Below M w w'.drew := ⟨h.os, h.tape, h.output, h.size, h.block⟩
end Go.RowKit
namespace Go.MagM
open Go.RowKit
/-- The number of a sign and a magnitude. -/
def sgn (m : Bool) (N : Nat) : Int := if m then -(N : Int) else (N : Int)
/-- WHAT A NUM IS: a sign and a slice of at most L words, which together are X. -/
def Num (w : World) (v : Value) (L : Nat) (X : Int) : Prop := ∃ m vm N, v = .agg #[.bool m, vm] ∧ Mag w vm L N ∧ X = sgn m N
/-- The same, and it is right. -/
def RNum (w : World) (v : Value) (L : Nat) (X : Int) : Prop := ∃ m vm N, v = .agg #[.bool m, vm] ∧ RMag w vm L N ∧ X = sgn m N ∧ (m = true → N ≠ 0)
theorem Num.below {w w' : World} {v : Value} {L : Nat} {X : Int} (h : Num w v L X) (hb : Below w.heap.size w w') : Num w' v L X := by
  obtain ⟨m, vm, N, h1, h2, h3⟩ := h; exact ⟨m, vm, N, h1, h2.below hb, h3⟩
theorem RNum.below {w w' : World} {v : Value} {L : Nat} {X : Int} (h : RNum w v L X) (hb : Below w.heap.size w w') : RNum w' v L X := by
  obtain ⟨m, vm, N, h1, h2, h3, h4⟩ := h; exact ⟨m, vm, N, h1, h2.below hb, h3, h4⟩
theorem RNum.num {w : World} {v : Value} {L : Nat} {X : Int} (h : RNum w v L X) : Num w v L X := by
  obtain ⟨m, vm, N, h1, h2, h3, h4⟩ := h; exact ⟨m, vm, N, h1, h2.mag, h3⟩
theorem Num.more {w : World} {v : Value} {L L' : Nat} {X : Int} (h : Num w v L X) (hL : L ≤ L') : Num w v L' X := by
  obtain ⟨m, vm, N, h1, h2, h3⟩ := h; exact ⟨m, vm, N, h1, h2.more hL, h3⟩
theorem RNum.more {w : World} {v : Value} {L L' : Nat} {X : Int} (h : RNum w v L X) (hL : L ≤ L') : RNum w v L' X := by
  obtain ⟨m, vm, N, h1, h2, h3, h4⟩ := h; exact ⟨m, vm, N, h1, h2.more hL, h3, h4⟩
theorem RNum.of {w : World} {v : Value} {L : Nat} {X Y : Int} (h : RNum w v L X) (e : X = Y) : RNum w v L Y := e ▸ h
/-- Block g is a box of two values, which may be written. -/
structure Box2 (w : World) (g : Nat) (u v : Value) : Prop where
  c0 : w.cell? ⟨g, 0, none⟩ = some u
  c1 : w.cell? ⟨g, 1, none⟩ = some v
  f0 : w.frozen? ⟨g, 0, none⟩ = false
  f1 : w.frozen? ⟨g, 1, none⟩ = false
theorem Box2.below {w w' : World} {g : Nat} {u v : Value} (h : Box2 w g u v) (hb : Below w.heap.size w w') : Box2 w' g u v := by
  have h0 := World.block_lt_of_cell? w _ h.c0
  exact ⟨(hb.cell (p := ⟨g, 0, none⟩) h0).trans h.c0, (hb.cell (p := ⟨g, 1, none⟩) h0).trans h.c1, (hb.frozen (p := ⟨g, 0, none⟩) h0).trans h.f0, (hb.frozen (p := ⟨g, 1, none⟩) h0).trans h.f1⟩
theorem Box2.set0 {w : World} {g : Nat} {u v : Value} (h : Box2 w g u v) (x : Value) : Box2 (w.setCell ⟨g, 0, none⟩ x) g x v :=
  ⟨World.cell?_setCell_same _ _ _ h.c0, (World.cell?_setCell_other _ _ _ _ (by simp)).trans h.c1, (World.frozen?_setCell _ _ _ _).trans h.f0, (World.frozen?_setCell _ _ _ _).trans h.f1⟩
theorem Box2.set1 {w : World} {g : Nat} {u v : Value} (h : Box2 w g u v) (x : Value) : Box2 (w.setCell ⟨g, 1, none⟩ x) g u x :=
  ⟨(World.cell?_setCell_other _ _ _ _ (by simp)).trans h.c0, World.cell?_setCell_same _ _ _ h.c1, (World.frozen?_setCell _ _ _ _).trans h.f0, (World.frozen?_setCell _ _ _ _).trans h.f1⟩
theorem Box2.far {w : World} {g g' : Nat} {u v : Value} (h : Box2 w g u v) (hne : g ≠ g') (o : Nat) (x : Value) : Box2 (w.setCell ⟨g', o, none⟩ x) g u v := by
  have ne : ∀ i j, (⟨g', i, none⟩ : Addr) ≠ ⟨g, j, none⟩ := by intro i j e; injection e with e1; exact hne e1.symm
  have ne' : ∀ i j, (⟨g, i, none⟩ : Addr) ≠ ⟨g', j, none⟩ := by intro i j e; injection e with e1; exact hne e1
  refine ⟨?_, ?_, (World.frozen?_setCell _ _ _ _).trans h.f0, (World.frozen?_setCell _ _ _ _).trans h.f1⟩
  · rw [World.cell?_setCell_other _ _ _ _ (by first | exact ne _ _ | exact ne' _ _)]; exact h.c0
  · rw [World.cell?_setCell_other _ _ _ _ (by first | exact ne _ _ | exact ne' _ _)]; exact h.c1
theorem Box2.drewN {w : World} {g : Nat} {u v : Value} (h : Box2 w g u v) (n : Nat) : Box2 (w.drewN n) g u v := ⟨h.c0, h.c1, h.f0, h.f1⟩
theorem Box2.drew {w : World} {g : Nat} {u v : Value} (h : Box2 w g u v) : Box2 w.drew g u v := ⟨h.c0, h.c1, h.f0, h.f1⟩
theorem Mag.drew {w : World} {v : Value} {L N : Nat} (h : Mag w v L N) : Mag w.drew v L N := h
theorem alloc_box (w : World) (u v : Value) (T : TypeId) : Box2 (w.alloc (.cells #[u, v] T)) w.heap.size u v := by
  constructor <;> simp [go_sem]
theorem Box2.alloc {w : World} {g : Nat} {u v : Value} (h : Box2 w g u v) (o : Obj) : Box2 (w.alloc o) g u v := h.below ((Below.refl _ _).alloc (Nat.le_refl _) _)
theorem alloc_size (w : World) (o : Obj) : (w.alloc o).heap.size = w.heap.size + 1 := by simp
theorem boxed1 (w : World) (u0 u1 : Value) (T : TypeId) : Box2 (w.alloc (.cells #[u0, u1] T)) w.heap.size u0 u1 ∧ Below w.heap.size w (w.alloc (.cells #[u0, u1] T)) :=
  ⟨alloc_box _ _ _ _, (Below.refl _ _).alloc (Nat.le_refl _) _⟩
theorem boxed2 (w : World) (u0 u1 v0 v1 : Value) (T : TypeId) :
    Box2 ((w.alloc (.cells #[u0, u1] T)).alloc (.cells #[v0, v1] T)) w.heap.size u0 u1 ∧ Box2 ((w.alloc (.cells #[u0, u1] T)).alloc (.cells #[v0, v1] T)) (w.heap.size + 1) v0 v1 ∧
      Below w.heap.size w ((w.alloc (.cells #[u0, u1] T)).alloc (.cells #[v0, v1] T)) := by
  have h := alloc_box (w.alloc (.cells #[u0, u1] T)) v0 v1 T
  rw [alloc_size] at h
  exact ⟨(alloc_box _ _ _ _).alloc _, h, ((Below.refl _ _).alloc (Nat.le_refl _) _).alloc (by simp) _⟩
theorem boxed3 (w : World) (u0 u1 v0 v1 x0 x1 : Value) (T : TypeId) :
    Box2 (((w.alloc (.cells #[u0, u1] T)).alloc (.cells #[v0, v1] T)).alloc (.cells #[x0, x1] T)) w.heap.size u0 u1 ∧ Box2 (((w.alloc (.cells #[u0, u1] T)).alloc (.cells #[v0, v1] T)).alloc (.cells #[x0, x1] T)) (w.heap.size + 1) v0 v1 ∧
      Box2 (((w.alloc (.cells #[u0, u1] T)).alloc (.cells #[v0, v1] T)).alloc (.cells #[x0, x1] T)) (w.heap.size + 1 + 1) x0 x1 ∧
      Below w.heap.size w (((w.alloc (.cells #[u0, u1] T)).alloc (.cells #[v0, v1] T)).alloc (.cells #[x0, x1] T)) := by
  obtain ⟨h1, h2, h3⟩ := boxed2 w u0 u1 v0 v1 T
  have h := alloc_box ((w.alloc (.cells #[u0, u1] T)).alloc (.cells #[v0, v1] T)) x0 x1 T
  rw [alloc_size, alloc_size] at h
  exact ⟨h1.alloc _, h2.alloc _, h, h3.alloc (by simp; omega) _⟩
theorem boxed4 (w : World) (u0 u1 v0 v1 x0 x1 y0 y1 : Value) (T : TypeId) :
    Box2 ((((w.alloc (.cells #[u0, u1] T)).alloc (.cells #[v0, v1] T)).alloc (.cells #[x0, x1] T)).alloc (.cells #[y0, y1] T)) w.heap.size u0 u1 ∧ Box2 ((((w.alloc (.cells #[u0, u1] T)).alloc (.cells #[v0, v1] T)).alloc (.cells #[x0, x1] T)).alloc (.cells #[y0, y1] T)) (w.heap.size + 1) v0 v1 ∧
      Box2 ((((w.alloc (.cells #[u0, u1] T)).alloc (.cells #[v0, v1] T)).alloc (.cells #[x0, x1] T)).alloc (.cells #[y0, y1] T)) (w.heap.size + 1 + 1) x0 x1 ∧
      Box2 ((((w.alloc (.cells #[u0, u1] T)).alloc (.cells #[v0, v1] T)).alloc (.cells #[x0, x1] T)).alloc (.cells #[y0, y1] T)) (w.heap.size + 1 + 1 + 1) y0 y1 ∧
      Below w.heap.size w ((((w.alloc (.cells #[u0, u1] T)).alloc (.cells #[v0, v1] T)).alloc (.cells #[x0, x1] T)).alloc (.cells #[y0, y1] T)) := by
  obtain ⟨h1, h2, h3, h4⟩ := boxed3 w u0 u1 v0 v1 x0 x1 T
  have h := alloc_box (((w.alloc (.cells #[u0, u1] T)).alloc (.cells #[v0, v1] T)).alloc (.cells #[x0, x1] T)) y0 y1 T
  rw [alloc_size, alloc_size, alloc_size] at h
  exact ⟨h1.alloc _, h2.alloc _, h3.alloc _, h, h4.alloc (by simp; omega) _⟩
theorem Num.drew {w : World} {v : Value} {L : Nat} {X : Int} (h : Num w v L X) : Num w.drew v L X := h
theorem RNum.drew {w : World} {v : Value} {L : Nat} {X : Int} (h : RNum w v L X) : RNum w.drew v L X := h
theorem RMag.drew {w : World} {v : Value} {L N : Nat} (h : RMag w v L N) : RMag w.drew v L N := h
/-- No integer. -/
def NoInt (u : Value) : Prop := ∀ k x, u ≠ .int k x
theorem NoInt.bool (b : Bool) : NoInt (.bool b) := fun _ _ h => by cases h
theorem NoInt.slice (a : Option Addr) (n c : Nat) : NoInt (.slice a n c) := fun _ _ h => by cases h
/-- Words stay where something else is written. -/
theorem Reads.setCell {w : World} {ao : Option Addr} {n : Nat} {f : Nat → Nat} (hr : Reads w ao n f) {a : Addr} {u : Value} (hc : w.cell? a = some u) (hu : NoInt u) (v : Value) : Reads (w.setCell a v) ao n f := by
  intro i hi
  obtain ⟨b, o, e, h1, h2⟩ := hr i hi
  refine ⟨b, o, e, ?_, h2⟩
  have ne : a ≠ ⟨b, o + i, none⟩ := by
    intro h; rw [h, h1] at hc
    exact hu _ _ (Option.some.inj hc).symm
  rw [World.cell?_setCell_other _ _ _ _ (by first | exact ne | exact ne.symm)]; exact h1
theorem Mag.setCell {w : World} {v : Value} {L N : Nat} (h : Mag w v L N) {a : Addr} {u : Value} (hc : w.cell? a = some u) (hu : NoInt u) (x : Value) : Mag (w.setCell a x) v L N := by
  obtain ⟨ao, n, c, f, h1, h2, h3, h4, h5⟩ := h; exact ⟨ao, n, c, f, h1, h2, h3, h4.setCell hc hu x, h5⟩
theorem RMag.setCell {w : World} {v : Value} {L N : Nat} (h : RMag w v L N) {a : Addr} {u : Value} (hc : w.cell? a = some u) (hu : NoInt u) (x : Value) : RMag (w.setCell a x) v L N := by
  obtain ⟨ao, n, c, f, h1, h2, h3, h4, h5⟩ := h; exact ⟨ao, n, c, f, h1, h2, h3, h4.setCell hc hu x, h5⟩
theorem Num.setCell {w : World} {v : Value} {L : Nat} {N : Int} (h : Num w v L N) {a : Addr} {u : Value} (hc : w.cell? a = some u) (hu : NoInt u) (x : Value) : Num (w.setCell a x) v L N := by
  obtain ⟨m, vm, M, h1, h2, h3⟩ := h; exact ⟨m, vm, M, h1, h2.setCell hc hu x, h3⟩
theorem RNum.setCell {w : World} {v : Value} {L : Nat} {N : Int} (h : RNum w v L N) {a : Addr} {u : Value} (hc : w.cell? a = some u) (hu : NoInt u) (x : Value) : RNum (w.setCell a x) v L N := by
  obtain ⟨m, vm, M, h1, h2, h3⟩ := h; exact ⟨m, vm, M, h1, h2.setCell hc hu x, h3⟩
/-- A box is written whole. -/
theorem RNum.set2 {w : World} {v : Value} {L : Nat} {N : Int} (h : RNum w v L N) {g : Nat} {b : Bool} {ao : Option Addr} {n c : Nat} (hb : Box2 w g (.bool b) (.slice ao n c)) (x y : Value) :
    RNum ((w.setCell ⟨g, 0, none⟩ x).setCell ⟨g, 1, none⟩ y) v L N :=
  (h.setCell hb.c0 (NoInt.bool _) x).setCell (hb.set0 x).c1 (NoInt.slice _ _ _) y
theorem Num.set2 {w : World} {v : Value} {L : Nat} {N : Int} (h : Num w v L N) {g : Nat} {b : Bool} {ao : Option Addr} {n c : Nat} (hb : Box2 w g (.bool b) (.slice ao n c)) (x y : Value) :
    Num ((w.setCell ⟨g, 0, none⟩ x).setCell ⟨g, 1, none⟩ y) v L N :=
  (h.setCell hb.c0 (NoInt.bool _) x).setCell (hb.set0 x).c1 (NoInt.slice _ _ _) y
theorem Mag.set2 {w : World} {v : Value} {L N : Nat} (h : Mag w v L N) {g : Nat} {b : Bool} {ao : Option Addr} {n c : Nat} (hb : Box2 w g (.bool b) (.slice ao n c)) (x y : Value) :
    Mag ((w.setCell ⟨g, 0, none⟩ x).setCell ⟨g, 1, none⟩ y) v L N :=
  (h.setCell hb.c0 (NoInt.bool _) x).setCell (hb.set0 x).c1 (NoInt.slice _ _ _) y
theorem Mag.slice {w : World} {v : Value} {L N : Nat} (h : Mag w v L N) : ∃ ao n c, v = .slice ao n c := by
  obtain ⟨ao, n, c, f, h1, _⟩ := h; exact ⟨ao, n, c, h1⟩
theorem RMag.slice {w : World} {v : Value} {L N : Nat} (h : RMag w v L N) : ∃ ao n c, v = .slice ao n c := h.mag.slice
theorem Box2.set2 {w : World} {g : Nat} {u v : Value} (h : Box2 w g u v) (x y : Value) : Box2 ((w.setCell ⟨g, 0, none⟩ x).setCell ⟨g, 1, none⟩ y) g x y := (h.set0 x).set1 y
theorem Box2.far2 {w : World} {g g' : Nat} {u v : Value} (h : Box2 w g u v) (hne : g ≠ g') (x y : Value) : Box2 ((w.setCell ⟨g', 0, none⟩ x).setCell ⟨g', 1, none⟩ y) g u v := (h.far hne 0 x).far hne 1 y
theorem below_set2 {M : Nat} {w w' : World} (h : Below M w w') {g : Nat} (hg : M ≤ g) (x y : Value) : Below M w ((w'.setCell ⟨g, 0, none⟩ x).setCell ⟨g, 1, none⟩ y) := (h.setCell (p := ⟨g, 0, none⟩) hg x).setCell (p := ⟨g, 1, none⟩) hg y
theorem sgn_neg (m : Bool) (N : Nat) : sgn (!m) N = -sgn m N := by cases m <;> simp [sgn]
theorem sgn_mul (m k : Bool) (N M : Nat) : sgn (m != k) (N * M) = sgn m N * sgn k M := by
  cases m <;> cases k <;> simp [sgn, Int.natCast_mul, Int.neg_mul, Int.mul_neg]
theorem sgn_add (m : Bool) (N M : Nat) : sgn m (N + M) = sgn m N + sgn m M := by
  cases m <;> simp only [sgn, if_true, if_false, Bool.false_eq_true] <;> omega
theorem sgn_sub (m : Bool) (N M : Nat) (h : M ≤ N) : sgn m (N - M) = sgn m N + sgn (!m) M := by
  cases m <;> simp only [sgn, if_true, if_false, Bool.false_eq_true, Bool.not_true, Bool.not_false] <;> omega
theorem sgn_flip (m : Bool) (N M : Nat) (h : N ≤ M) : sgn (!m) (M - N) = sgn m N + sgn (!m) M := by
  cases m <;> simp only [sgn, if_true, if_false, Bool.false_eq_true, Bool.not_true, Bool.not_false] <;> omega
theorem sgn_abs (m : Bool) (N : Nat) : (N : Int) = ((sgn m N).natAbs : Int) := by cases m <;> simp [sgn]
theorem sgn_false (N : Nat) : sgn false N = (N : Int) := rfl
theorem sgn_true (N : Nat) : sgn true N = -(N : Int) := rfl
end Go.MagM
