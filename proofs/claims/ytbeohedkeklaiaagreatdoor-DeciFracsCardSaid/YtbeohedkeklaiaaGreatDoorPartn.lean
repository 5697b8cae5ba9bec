/- From the form of the rows to the walks of layer 4: the powers of ten in their table. -/
import Derived.Test.YtbeohedkeklaiaaGreatDoorParti
import Derived.Test.YtbeohedkeklaiaaGreatDoorDeciF
import Derived.LaidLaws
import Derived.Lay
import Derived.Lib.LaidTab
import Derived.Stop.LaidErr
import Derived.ChangeMaps5
import Derived.Test.YtbeohedkeklaiaaGreatDoorPartf
import Derived.Test.YtbeohedkeklaiaaGreatDoorPartg
import Derived.Test.YtbeohedkeklaiaaGreatDoorPartd
import Derived.Test.YtbeohedkeklaiaaGreatDoorParth
namespace Go.Proofs.YtbeohedkeklaiaaGreatDoor
open Go.ChangeShapes Go.WideShapes Go.RowKit Go.MagM
theorem tensName : Tryz.prog.globalNamed "internal/strconv.uint64pow10" = some 3 := by kernel_rfl
theorem tensType : (Tryz.prog.globals[3]?).map (·.type) = some 177 := by kernel_rfl
theorem tensUnder : Tryz.prog.underlying 177 = some (.array 20 49) := by kernel_rfl
theorem tensElem : Tryz.prog.underlying 49 = some (.int .u64) := by kernel_rfl
theorem tensCells1 : Tryz.prog.cellsOf 49 = 1 := by kernel_rfl
theorem tensCells : Tryz.prog.cellsOf 177 = 20 := by kernel_rfl
theorem tensData : (Rows.laid_internal_strconv_uint64pow10 : DataW Unit) = Lib.tabData .u64 Lib.pow10Tab := by kernel_rfl
/-- What the condition on the tables gives a walk. -/
theorem tens_of_laid {W : World} (h : laidMet Tryz.prog [("math/bits.deBruijn32tab", Rows.laid_math_bits_deBruijn32tab), ("math/bits.deBruijn64tab", Rows.laid_math_bits_deBruijn64tab), ("internal/strconv.uint64pow10", Rows.laid_internal_strconv_uint64pow10), ("unicode/utf8.acceptRanges", Rows.laid_unicode_utf8_acceptRanges), ("unicode/utf8.first", Rows.laid_unicode_utf8_first)] W) : Tens W := by
  have h2 := h.tail.tail
  rw [tensData] at h2
  exact ⟨Lib.tabIs_of_head tensName tensType tensUnder tensElem tensCells1 tensCells h2⟩
end Go.Proofs.YtbeohedkeklaiaaGreatDoor
/- A leap of Euclid's steps (Lehmer's way): the mathematics. -/
namespace Go.MagG
/-- Where a leap stands: a, b are what is left of the heads A0, B0; x, y are the factors; s: after steps (else none has been gone). -/
structure Leap (A0 B0 a b x0 x1 y0 y1 : Nat) (odd : Bool) : Prop where
  detA : y1 * a + y0 * b = A0
  detB : x1 * a + x0 * b = B0
  even : odd = false → x0 * y1 = x1 * y0 + 1
  odds : odd = true → y0 * x1 = x0 * y1 + 1
  gone : (y0 = 0 ∧ x0 = 1 ∧ x1 = 0 ∧ y1 = 1 ∧ b ≤ a) ∨ (1 ≤ y0 ∧ 1 ≤ x1 ∧ x0 ≤ y0 ∧ x1 ≤ y1 ∧ y1 ≤ b ∧ y0 + y1 + b ≤ a)
theorem Leap.start {A0 B0 : Nat} (h : B0 ≤ A0) : Leap A0 B0 A0 B0 1 0 0 1 false :=
  ⟨by simp, by simp, fun _ => rfl, fun h => by simp at h, .inl ⟨rfl, rfl, rfl, rfl, h⟩⟩
theorem Leap.le {A0 B0 a b x0 x1 y0 y1 : Nat} {odd : Bool} (h : Leap A0 B0 a b x0 x1 y0 y1 odd) : b ≤ a := by
  rcases h.gone with h | h <;> omega
theorem det_step (q y0 y1 a b r A : Nat) (h3 : a = b * q + r) (h : y1 * a + y0 * b = A) : (y0 + q * y1) * b + y1 * r = A := by grind
theorem det_flip (q x0 x1 y0 y1 : Nat) (h : x0 * y1 = x1 * y0 + 1) : y1 * (x0 + q * x1) = x1 * (y0 + q * y1) + 1 := by grind
theorem det_flop (q x0 x1 y0 y1 : Nat) (h : y0 * x1 = x0 * y1 + 1) : x1 * (y0 + q * y1) = (x0 + q * x1) * y1 + 1 := by grind
/-- One step: the next factors fit in a word, if the numbers do. -/
theorem Leap.next {A0 B0 a b x0 x1 y0 y1 : Nat} {odd : Bool} (h : Leap A0 B0 a b x0 x1 y0 y1 odd) (hb : b ≠ 0) :
    y0 + a / b * y1 ≤ A0 ∧ x0 + a / b * x1 ≤ B0 ∧ (y0 + a / b * y1 ≤ a % b → y1 + (y0 + a / b * y1) ≤ A0) := by
  have e := (Nat.div_add_mod a b).symm
  have h1 := det_step (a / b) y0 y1 a b (a % b) A0 e h.detA
  have h2 := det_step (a / b) x0 x1 a b (a % b) B0 e h.detB
  have hb1 : 1 ≤ b := by omega
  have h3 := Nat.mul_le_mul_left (y0 + a / b * y1) hb1
  have h4 := Nat.mul_le_mul_left (x0 + a / b * x1) hb1
  rw [Nat.mul_one] at h3 h4
  refine ⟨by omega, by omega, fun hr => ?_⟩
  have hny : 1 ≤ y0 + a / b * y1 := by
    rcases h.gone with ⟨g1, _, _, g2, g3⟩ | ⟨g1, _⟩
    · have : 1 ≤ a / b := (Nat.one_le_div_iff (by omega)).2 g3
      rw [g2]; omega
    · omega
  have h5 := Nat.mul_le_mul_left y1 (show 1 ≤ a % b by omega)
  rw [Nat.mul_one] at h5
  omega
theorem Leap.step {A0 B0 a b x0 x1 y0 y1 : Nat} {odd : Bool} (h : Leap A0 B0 a b x0 x1 y0 y1 odd) (hb : b ≠ 0)
    (h1 : y0 + a / b * y1 ≤ a % b) (h2 : y1 + (y0 + a / b * y1) ≤ b - a % b) :
    Leap A0 B0 b (a % b) x1 (x0 + a / b * x1) y1 (y0 + a / b * y1) (!odd) := by
  have e := (Nat.div_add_mod a b).symm
  have hr : a % b < b := Nat.mod_lt _ (by omega)
  refine ⟨det_step _ _ _ _ _ _ _ e h.detA, det_step _ _ _ _ _ _ _ e h.detB, fun ho => ?_, fun ho => ?_, .inr ?_⟩
  · have : odd = true := by simpa using ho
    exact det_flop _ _ _ _ _ (h.odds this)
  · have : odd = false := by simpa using ho
    exact det_flip _ _ _ _ _ (h.even this)
  · have hq : 1 ≤ a / b := (Nat.one_le_div_iff (by omega)).2 h.le
    rcases h.gone with ⟨g1, g2, g3, g4, g5⟩ | ⟨g1, g2, g3, g4, g5, g6⟩
    · subst g1; subst g2; subst g3; subst g4
      simp only [Nat.mul_zero, Nat.mul_one, Nat.zero_add, Nat.add_zero] at h1 h2 ⊢
      omega
    · have h5 := Nat.mul_le_mul_left (a / b) g4
      have h6 := Nat.mul_le_mul_right x1 hq
      omega
theorem sum_even (A0 B0 a b x0 x1 y0 y1 S lA lB P Q : Nat) (hA : y1 * a + y0 * b = A0) (hB : x1 * a + x0 * b = B0) (hd : x0 * y1 = x1 * y0 + 1)
    (hP : P + y0 * lB = a * S + x0 * lA) (hQ : Q + x1 * lA = b * S + y1 * lB) :
    P + y0 * (B0 * S + lB) = x0 * (A0 * S + lA) ∧ Q + x1 * (A0 * S + lA) = y1 * (B0 * S + lB) ∧ A0 * S + lA = y1 * P + y0 * Q ∧ B0 * S + lB = x1 * P + x0 * Q := by
  subst hA; subst hB
  refine ⟨?_, ?_, ?_, ?_⟩ <;> grind
theorem sum_odd (A0 B0 a b x0 x1 y0 y1 S lA lB P Q : Nat) (hA : y1 * a + y0 * b = A0) (hB : x1 * a + x0 * b = B0) (hd : y0 * x1 = x0 * y1 + 1)
    (hP : P + x0 * lA = a * S + y0 * lB) (hQ : Q + y1 * lB = b * S + x1 * lA) :
    P + x0 * (A0 * S + lA) = y0 * (B0 * S + lB) ∧ Q + y1 * (B0 * S + lB) = x1 * (A0 * S + lA) ∧ A0 * S + lA = y1 * P + y0 * Q ∧ B0 * S + lB = x1 * P + x0 * Q := by
  subst hA; subst hB
  refine ⟨?_, ?_, ?_, ?_⟩ <;> grind
/-- A pair with the same divisors: from A, B to P, Q. -/
theorem gcd_mix (A B P Q x0 x1 y0 y1 : Nat) (h1 : P + y0 * B = x0 * A) (h2 : Q + x1 * A = y1 * B) (h3 : A = y1 * P + y0 * Q) (h4 : B = x1 * P + x0 * Q) : Nat.gcd P Q = Nat.gcd A B := by
  apply Nat.dvd_antisymm
  · apply Nat.dvd_gcd
    · rw [h3]; exact Nat.dvd_add (Nat.dvd_mul_left_of_dvd (Nat.gcd_dvd_left _ _) _) (Nat.dvd_mul_left_of_dvd (Nat.gcd_dvd_right _ _) _)
    · rw [h4]; exact Nat.dvd_add (Nat.dvd_mul_left_of_dvd (Nat.gcd_dvd_left _ _) _) (Nat.dvd_mul_left_of_dvd (Nat.gcd_dvd_right _ _) _)
  · apply Nat.dvd_gcd
    · have := Nat.dvd_mul_left_of_dvd (Nat.gcd_dvd_left A B) x0
      rw [← h1] at this
      exact (Nat.dvd_add_iff_left (Nat.dvd_mul_left_of_dvd (Nat.gcd_dvd_right A B) y0)).2 this
    · have := Nat.dvd_mul_left_of_dvd (Nat.gcd_dvd_right A B) y1
      rw [← h2] at this
      exact (Nat.dvd_add_iff_left (Nat.dvd_mul_left_of_dvd (Nat.gcd_dvd_left A B) x1)).2 this
theorem gcd_mox (A B P Q x0 x1 y0 y1 : Nat) (h1 : P + x0 * A = y0 * B) (h2 : Q + y1 * B = x1 * A) (h3 : A = y1 * P + y0 * Q) (h4 : B = x1 * P + x0 * Q) : Nat.gcd P Q = Nat.gcd A B := by
  rw [Nat.gcd_comm A B]
  refine gcd_mix B A P Q y0 y1 x0 x1 h1 h2 h4 h3
theorem sub_room {c u l S t : Nat} (h : c ≤ t) (hl : l < S) : c * l ≤ t * S + u := by
  have := Nat.mul_le_mul h (Nat.le_of_lt hl); omega
/-- What the leap's end tells of the numbers whose heads they were: the new pair. -/
theorem Leap.pair {A0 B0 a b x0 x1 y0 y1 : Nat} {odd : Bool} (h : Leap A0 B0 a b x0 x1 y0 y1 odd) (hy : y0 ≠ 0) (S lA lB : Nat) (hlA : lA < S) (hlB : lB < S) :
    ∃ P Q, (odd = false → P + y0 * (B0 * S + lB) = x0 * (A0 * S + lA) ∧ Q + x1 * (A0 * S + lA) = y1 * (B0 * S + lB)) ∧
      (odd = true → P + x0 * (A0 * S + lA) = y0 * (B0 * S + lB) ∧ Q + y1 * (B0 * S + lB) = x1 * (A0 * S + lA)) ∧
      Q ≤ P ∧ Nat.gcd P Q = Nat.gcd (A0 * S + lA) (B0 * S + lB) ∧ A0 * S + lA = y1 * P + y0 * Q ∧ B0 * S + lB = x1 * P + x0 * Q ∧ 1 ≤ y0 ∧ 1 ≤ x1 ∧ x1 ≤ y1 := by
  obtain ⟨g1, g2, g3, g4, g5, g6⟩ := h.gone.resolve_left (fun g => hy g.1)
  have hab : (y0 + y1) * S + b * S ≤ a * S := by rw [← Nat.add_mul]; exact Nat.mul_le_mul_right S g6
  have e1 : y0 * lB ≤ a * S + x0 * lA := sub_room (by omega) hlB
  have e2 : x1 * lA ≤ b * S + y1 * lB := sub_room (by omega) hlA
  have e3 : x0 * lA ≤ a * S + y0 * lB := sub_room (by omega) hlA
  have e4 : y1 * lB ≤ b * S + x1 * lA := sub_room (by omega) hlB
  have m1 : (y0 + y1) * lB ≤ (y0 + y1) * S := Nat.mul_le_mul_left _ (Nat.le_of_lt hlB)
  have m2 : (x0 + x1) * lA ≤ (y0 + y1) * S := Nat.mul_le_mul (by omega) (Nat.le_of_lt hlA)
  rw [Nat.add_mul] at m1 m2
  cases odd with
  | false =>
    obtain ⟨P, hP⟩ : ∃ P, P + y0 * lB = a * S + x0 * lA := ⟨a * S + x0 * lA - y0 * lB, by omega⟩
    obtain ⟨Q, hQ⟩ : ∃ Q, Q + x1 * lA = b * S + y1 * lB := ⟨b * S + y1 * lB - x1 * lA, by omega⟩
    obtain ⟨r1, r2, r3, r4⟩ := sum_even A0 B0 a b x0 x1 y0 y1 S lA lB P Q h.detA h.detB (h.even rfl) hP hQ
    exact ⟨P, Q, fun _ => ⟨r1, r2⟩, fun h => (by cases h), by omega, gcd_mix _ _ _ _ _ _ _ _ r1 r2 r3 r4, r3, r4, g1, g2, g4⟩
  | true =>
    obtain ⟨P, hP⟩ : ∃ P, P + x0 * lA = a * S + y0 * lB := ⟨a * S + y0 * lB - x0 * lA, by omega⟩
    obtain ⟨Q, hQ⟩ : ∃ Q, Q + y1 * lB = b * S + x1 * lA := ⟨b * S + x1 * lA - y1 * lB, by omega⟩
    obtain ⟨r1, r2, r3, r4⟩ := sum_odd A0 B0 a b x0 x1 y0 y1 S lA lB P Q h.detA h.detB (h.odds rfl) hP hQ
    exact ⟨P, Q, fun h => (by cases h), fun _ => ⟨r1, r2⟩, by omega, gcd_mox _ _ _ _ _ _ _ _ r1 r2 r3 r4, r3, r4, g1, g2, g4⟩
/-- The new pair is less. -/
theorem less_pair (A B P Q x0 x1 y0 y1 : Nat) (h3 : A = y1 * P + y0 * Q) (h4 : B = x1 * P + x0 * Q) (hy0 : 1 ≤ y0) (hx1 : 1 ≤ x1) (hxy : x1 ≤ y1) (hle : Q ≤ P) (hA : 0 < A) : P + Q < A + B ∧ P ≤ A := by
  have h5 := Nat.mul_le_mul_right P (show 1 ≤ y1 by omega)
  have h6 := Nat.mul_le_mul_right P hx1
  have h7 := Nat.mul_le_mul_right Q hy0
  rw [Nat.one_mul] at h5 h6 h7
  have hP : 0 < P := by
    rcases Nat.eq_zero_or_pos P with h | h
    · subst h
      have : Q = 0 := by omega
      subst this; simp at h3; omega
    · exact h
  omega
end Go.MagG
/- The parts of Gcd: gcdWords, at, head. -/
namespace Go.Proofs.YtbeohedkeklaiaaGreatDoor
open Go.RowKit Go.MagM
set_option maxHeartbeats 1000000 in
theorem gcdWords_any (x y : Nat) (w : World) (hx : x < B) (hy : y < B) :
    Calls Tryz.prog 91 #[.int .u64 (x : Int), .int .u64 (y : Int)] w fun e w' => ∃ q, e = .returned (.int .u64 ((Nat.gcd x y : Nat) : Int)) ∧ w' = w.drewN q := by
  go_enter Tryz.func91, Tryz.ntmps91
  go_wp2
  go_loopw [0, 1] (fun av bv wr => ∃ a b q : Nat, av = .int .u64 a ∧ bv = .int .u64 b ∧ a < B ∧ b < B ∧ Nat.gcd a b = Nat.gcd x y ∧ wr = w.drewN q) (fun _ bv _ => (intOf bv).toNat)
  case atStart => exact ⟨x, y, 0, rfl, rfl, hx, hy, rfl, rfl⟩
  case round =>
    obtain ⟨a, b, q, rfl, rfl, ha, hb, hg, rfl⟩ := hrel
    have HG := Lib.hid hg; have HA := Lib.hid ha; have HBB := Lib.hid hb; clear hg ha hb
    by_cases h0 : b = 0
    · subst h0
      go_wp2
      go_ret
      refine ⟨q, ?_, rfl⟩
      rw [← HG.out, Nat.gcd_zero_right]; rfl
    · have hbb : ((b : Int) != 0) = true := by simp; omega
      have hb0 : (b : Int) ≠ 0 := by omega
      obtain ⟨r, hr⟩ : ∃ r, a % b = r := ⟨_, rfl⟩
      have hmod : (a : Int) % (b : Int) = (r : Int) := by rw [← hr]; simp
      have hrb : r < b := by rw [← hr]; exact Nat.mod_lt _ (by omega)
      have HR := Lib.hid hr; have HRB := Lib.hid hrb; clear hr hrb
      go_wp2
      go_quiet (fail)
      go_wp2
      refine ⟨⟨b, r, q + nq, rfl, by rw [hmod], HBB.out, Nat.lt_trans HRB.out HBB.out, ?_, by rw [World.drewN_drewN]⟩, ?_⟩
      · rw [← HG.out, ← HR.out, Nat.gcd_comm b, ← Nat.gcd_rec, Nat.gcd_comm]
      · have := HRB.out; simp [intOf]; omega
set_option maxHeartbeats 1000000 in
theorem at_any (ao : Option Addr) (n c i : Nat) (f : Nat → Nat) (w : World) (hr : Reads w ao n f) :
    Calls Tryz.prog 145 #[.slice ao n c, .int .i64 (i : Int)] w fun e w' => e = .returned (.int .u64 (((if i < n then f i else 0 : Nat)) : Int)) ∧ w = w' := by
  by_cases h : i < n
  · obtain ⟨b, o, rfl, hc, _⟩ := hr i h
    rw [if_pos h]
    clear hr
    go_enter Tryz.func145, Tryz.ntmps145
    go_wp2
    go_ret
    exact ⟨rfl, rfl⟩
  · rw [if_neg h]
    clear hr
    go_enter Tryz.func145, Tryz.ntmps145
    go_wp2
    go_ret
    exact ⟨rfl, rfl⟩
/-- A word of a number, 0 beyond its end. -/
def zx (f : Nat → Nat) (n i : Nat) : Nat := if i < n then f i else 0
theorem zx_lt {f : Nat → Nat} {n : Nat} (h : ∀ i, i < n → f i < B) (i : Nat) : zx f n i < B := by
  unfold zx; split
  · exact h i (by omega)
  · exact B_pos
set_option maxHeartbeats 1000000 in
theorem head_any (ao : Option Addr) (n c T t s : Nat) (f : Nat → Nat) (w : World) (hT : T ≤ 9000000000) (hTt : (T : Int) - 1 = (t : Int)) (hs : s ≤ 63) (hr : Reads w ao n f) :
    Calls Tryz.prog 117 #[.slice ao n c, .int .i64 (T : Int), .int .i64 (s : Int)] w fun e w' =>
      ∃ q, e = .returned (.int .u64 ((zx f n T * 2 ^ s % B + zx f n t * 2 ^ s / B : Nat) : Int)) ∧ w' = w.drewN q := by
  have hlt := zx_lt hr.lt t
  have a1 : ∀ (i : Nat) (q : Nat), Calls Tryz.prog 145 #[.slice ao n c, .int .i64 (i : Int)] (w.drewN q) fun e w' => e = .returned (.int .u64 ((zx f n i : Nat) : Int)) ∧ ∃ k, w' = w.drewN k :=
    fun i q => (at_any ao n c i f (w.drewN q) hr).mono fun _ _ h => ⟨h.1, q, h.2.symm⟩
  obtain ⟨x, hx⟩ : ∃ x, zx f n T = x := ⟨_, rfl⟩
  obtain ⟨y, hy⟩ : ∃ y, zx f n t = y := ⟨_, rfl⟩
  have aT := a1 T
  have at' := a1 t
  simp only [hx] at aT ⊢; simp only [hy] at at' hlt ⊢
  have AT := Lib.hid aT; have At := Lib.hid at'; have HL := Lib.hid hlt
  clear a1 hr hx hy aT at' hlt
  have b5 : (0 : Int) ≤ 64 - (s : Int) := by omega
  have hk1 : IntKind.i64.wrap ((T : Int) - 1) = (t : Int) := by rw [IntWalk.i64_in _ (by omega)]; omega
  have b7 : IntKind.i64.wrap (64 - (s : Int)) = 64 - (s : Int) := IntWalk.i64_in _ (by omega)
  clear hTt
  go_enter Tryz.func117, Tryz.ntmps117
  go_wp2
  go_quiet ((go_at_call 145; first | with_reducible exact AT.out _ | with_reducible exact At.out _))
  go_wp2
  go_ret
  refine ⟨nq, ?_, rfl⟩
  rw [← orU _ _ _ HL.out (by omega)]; rfl
end Go.Proofs.YtbeohedkeklaiaaGreatDoor
/- leap. -/
namespace Go.Proofs.YtbeohedkeklaiaaGreatDoor
open Go.RowKit Go.MagM Go.MagG
set_option maxRecDepth 100000 in
set_option maxHeartbeats 4000000 in
theorem leap_any (A0 B0 : Nat) (w : World) (hA : A0 < B) (hB : B0 < B) (hle : B0 ≤ A0) :
    Calls Tryz.prog 116 #[.int .u64 (A0 : Int), .int .u64 (B0 : Int)] w fun e w' =>
      ∃ a b x0 x1 y0 y1 odd, Leap A0 B0 a b x0 x1 y0 y1 odd ∧ e = .returned (.tuple #[.agg #[.int .u64 ((x0 : Nat) : Int), .int .u64 ((x1 : Nat) : Int)], .agg #[.int .u64 ((y0 : Nat) : Int), .int .u64 ((y1 : Nat) : Int)], .bool odd]) ∧ Below w.heap.size w w' := by
  have HA := Lib.hid hA; have HB := Lib.hid hB
  have hstart := Leap.start hle
  have HS := Lib.hid hstart
  obtain ⟨b0, b1, hB0⟩ := boxed2 w (.int .u64 1) (.int .u64 0) (.int .u64 0) (.int .u64 1) 137
  have B0' := Lib.hid b0; have B1' := Lib.hid b1; have H0 := Lib.hid hB0
  clear hA hB hle hstart b0 b1 hB0
  go_enter Tryz.func116, Tryz.ntmps116
  go_wp2
  go_loopw [0, 1, 6] (fun av bv ov wr => ∃ a b x0 x1 y0 y1 : Nat, ∃ odd : Bool, av = .int .u64 a ∧ bv = .int .u64 b ∧ ov = .bool odd ∧ Leap A0 B0 a b x0 x1 y0 y1 odd ∧
    Box2 wr w.heap.size (.int .u64 (x0 : Int)) (.int .u64 (x1 : Int)) ∧ Box2 wr (w.heap.size + 1) (.int .u64 (y0 : Int)) (.int .u64 (y1 : Int)) ∧ Below w.heap.size w wr ∧ a < B ∧ b < B) (fun _ bv _ _ => (intOf bv).toNat)
  case atStart => exact ⟨A0, B0, 1, 0, 0, 1, false, rfl, rfl, rfl, HS.out, B0'.out, B1'.out, H0.out, HA.out, HB.out⟩
  case round =>
    obtain ⟨a, b, x0, x1, y0, y1, odd, rfl, rfl, rfl, hl, hx, hy, hbel, haB, hbB⟩ := hrel
    have HL := Lib.hid hl; have HBE := Lib.hid hbel; have HX := Lib.hid hx; have HY := Lib.hid hy; have HAB := Lib.hid haB; have HBB := Lib.hid hbB
    clear hl hbel hx hy haB hbB B0' B1' H0 HS
    by_cases h0 : b = 0
    · subst h0
      go_wp2
      obtain ⟨xz0, xz1, xz2, xz3⟩ := HX.out.drew
      obtain ⟨yz0, yz1, yz2, yz3⟩ := HY.out.drew
      obtain ⟨xc0, xc1, xf0, xf1⟩ := HX.out
      obtain ⟨yc0, yc1, yf0, yf1⟩ := HY.out
      have bx := (HX.out.set2 (.int .u64 (x0 : Int)) (.int .u64 (x1 : Int))).far2 (g' := w.heap.size + 1) (by omega) (.int .u64 (y0 : Int)) (.int .u64 (y1 : Int))
      have by' := (HY.out.far2 (g' := w.heap.size) (by omega) (.int .u64 (x0 : Int)) (.int .u64 (x1 : Int))).set2 (.int .u64 (y0 : Int)) (.int .u64 (y1 : Int))
      have hbe := below_set2 (below_set2 HBE.out (g := w.heap.size) (by omega) (.int .u64 (x0 : Int)) (.int .u64 (x1 : Int))) (g := w.heap.size + 1) (by omega) (.int .u64 (y0 : Int)) (.int .u64 (y1 : Int))
      have BX := Lib.hid bx; have BY := Lib.hid by'; have BE := Lib.hid hbe; clear bx by' hbe
      obtain ⟨xs0, xs1, xt0, xt1⟩ := HX.out.set0 (.int .u64 (x0 : Int))
      obtain ⟨yd0, yd1, yg0, yg1⟩ := HY.out.far2 (g' := w.heap.size) (by omega) (.int .u64 (x0 : Int)) (.int .u64 (x1 : Int))
      obtain ⟨ys0, ys1, yt0, yt1⟩ := (HY.out.far2 (g' := w.heap.size) (by omega) (.int .u64 (x0 : Int)) (.int .u64 (x1 : Int))).set0 (.int .u64 (y0 : Int))
      go_region
      clear xz0 xz1 xz2 xz3 yz0 yz1 yz2 yz3 xc0 xc1 xf0 xf1 yc0 yc1 yf0 yf1 xs0 xs1 xt0 xt1 yd0 yd1 yg0 yg1 ys0 ys1 yt0 yt1
      obtain ⟨xc0, xc1, xf0, xf1⟩ := BX.out.drew
      obtain ⟨yc0, yc1, yf0, yf1⟩ := BY.out.drew
      obtain ⟨xd0, xd1, xg0, xg1⟩ := BX.out
      obtain ⟨yd0, yd1, yg0, yg1⟩ := BY.out
      go_wp2
      exact bodyPost_ret (v := .tuple #[.agg #[.int .u64 (x0 : Int), .int .u64 (x1 : Int)], .agg #[.int .u64 (y0 : Int), .int .u64 (y1 : Int)], .bool odd]) (by simp [results, Tryz.results116, go_sem, xd0, xd1, yd0, yd1]) rfl ⟨_, _, x0, x1, y0, y1, odd, HL.out, rfl, BE.out.drew'⟩
    · skip
      have hbb : ((b : Int) != 0) = true := by simp; omega
      have hb0 : (b : Int) ≠ 0 := by omega
      obtain ⟨n1, n2, n3⟩ := HL.out.next h0
      obtain ⟨q, hq⟩ : ∃ q, a / b = q := ⟨_, rfl⟩
      obtain ⟨r, hr⟩ : ∃ r, a % b = r := ⟨_, rfl⟩
      have hquo : (a : Int) / (b : Int) = (q : Int) := by rw [← hq]; simp
      have hmod : (a : Int) % (b : Int) = (r : Int) := by rw [← hr]; simp
      have hrb : r < b := by rw [← hr]; exact Nat.mod_lt _ (by omega)
      rw [hq] at n1 n2 n3
      rw [hr] at n3
      obtain ⟨m1, hm1⟩ : ∃ m, q * x1 = m := ⟨_, rfl⟩
      obtain ⟨m2, hm2⟩ : ∃ m, q * y1 = m := ⟨_, rfl⟩
      rw [hm2] at n1 n3
      rw [hm1] at n2
      obtain ⟨nx, hnx⟩ : ∃ n, x0 + m1 = n := ⟨_, rfl⟩
      obtain ⟨ny, hny⟩ : ∃ n, y0 + m2 = n := ⟨_, rfl⟩
      rw [hny] at n1 n3
      rw [hnx] at n2
      have hA := HA.out; have hBB := HB.out
      have hqa : q ≤ a := by rw [← hq]; exact Nat.div_le_self _ _
      have haB := HAB.out
      have e0 : IntKind.u64.wrap (q : Int) = (q : Int) := by rw [IntKind.wrap_u64]; unfold B at *; omega
      have e1 : IntKind.u64.wrap ((q : Int) * (x1 : Int)) = (m1 : Int) := by rw [← Int.natCast_mul, hm1, IntKind.wrap_u64]; unfold B at *; omega
      have e3 : IntKind.u64.wrap ((q : Int) * (y1 : Int)) = (m2 : Int) := by rw [← Int.natCast_mul, hm2, IntKind.wrap_u64]; unfold B at *; omega
      have e2 : IntKind.u64.wrap ((x0 : Int) + (m1 : Int)) = (nx : Int) := by rw [IntKind.wrap_u64]; unfold B at *; omega
      have e4 : IntKind.u64.wrap ((y0 : Int) + (m2 : Int)) = (ny : Int) := by rw [IntKind.wrap_u64]; unfold B at *; omega
      have HN := Lib.hid (And.intro hq (And.intro hr (And.intro hm1 (And.intro hm2 (And.intro hnx hny)))))
      have HN3 := Lib.hid n3; have HN1 := Lib.hid n1; have HN2 := Lib.hid n2; have HRB := Lib.hid hrb; have H0' := Lib.hid h0
      clear hq hr hm1 hm2 hnx hny n1 n2 n3 hA hBB hqa haB
      go_wp2
      go_quiet (fail)
      rw [hmod]
      clear hquo hmod hbb hb0
      have hX2 := HX.out.drewN nq; have hY2 := HY.out.drewN nq; have hBE2 := HBE.out.drewN' nq
      generalize wr.drewN nq = w2 at *
      clear HX HY HBE
      have HX := Lib.hid hX2; have HY := Lib.hid hY2; have HBE := Lib.hid hBE2; clear hX2 hY2 hBE2
      obtain ⟨xc0, xc1, xf0, xf1⟩ := HX.out
      obtain ⟨yc0, yc1, yf0, yf1⟩ := HY.out
      go_wp2
      go_quiet (fail)
      clear e0 e1 e2 e3 e4 xc0 xc1 xf0 xf1 yc0 yc1 yf0 yf1
      clear hrb; have hX2 := HX.out.drewN nq; have hY2 := HY.out.drewN nq; have hBE2 := HBE.out.drewN' nq
      generalize w2.drewN nq = w3 at *
      clear HX HY HBE
      have HX := Lib.hid hX2; have HY := Lib.hid hY2; have HBE := Lib.hid hBE2; clear hX2 hY2 hBE2
      by_cases hc1 : r < ny
      · skip
        go_wp2
        obtain ⟨xz0, xz1, xz2, xz3⟩ := HX.out.drew
        obtain ⟨yz0, yz1, yz2, yz3⟩ := HY.out.drew
        obtain ⟨xc0, xc1, xf0, xf1⟩ := HX.out
        obtain ⟨yc0, yc1, yf0, yf1⟩ := HY.out
        have bx := (HX.out.set2 (.int .u64 (x0 : Int)) (.int .u64 (x1 : Int))).far2 (g' := w.heap.size + 1) (by omega) (.int .u64 (y0 : Int)) (.int .u64 (y1 : Int))
        have by' := (HY.out.far2 (g' := w.heap.size) (by omega) (.int .u64 (x0 : Int)) (.int .u64 (x1 : Int))).set2 (.int .u64 (y0 : Int)) (.int .u64 (y1 : Int))
        have hbe := below_set2 (below_set2 HBE.out (g := w.heap.size) (by omega) (.int .u64 (x0 : Int)) (.int .u64 (x1 : Int))) (g := w.heap.size + 1) (by omega) (.int .u64 (y0 : Int)) (.int .u64 (y1 : Int))
        have BX := Lib.hid bx; have BY := Lib.hid by'; have BE := Lib.hid hbe; clear bx by' hbe
        obtain ⟨xs0, xs1, xt0, xt1⟩ := HX.out.set0 (.int .u64 (x0 : Int))
        obtain ⟨yd0, yd1, yg0, yg1⟩ := HY.out.far2 (g' := w.heap.size) (by omega) (.int .u64 (x0 : Int)) (.int .u64 (x1 : Int))
        obtain ⟨ys0, ys1, yt0, yt1⟩ := (HY.out.far2 (g' := w.heap.size) (by omega) (.int .u64 (x0 : Int)) (.int .u64 (x1 : Int))).set0 (.int .u64 (y0 : Int))
        go_region
        clear xz0 xz1 xz2 xz3 yz0 yz1 yz2 yz3 xc0 xc1 xf0 xf1 yc0 yc1 yf0 yf1 xs0 xs1 xt0 xt1 yd0 yd1 yg0 yg1 ys0 ys1 yt0 yt1
        obtain ⟨xc0, xc1, xf0, xf1⟩ := BX.out.drew
        obtain ⟨yc0, yc1, yf0, yf1⟩ := BY.out.drew
        obtain ⟨xd0, xd1, xg0, xg1⟩ := BX.out
        obtain ⟨yd0, yd1, yg0, yg1⟩ := BY.out
        go_wp2
        exact bodyPost_ret (v := .tuple #[.agg #[.int .u64 (x0 : Int), .int .u64 (x1 : Int)], .agg #[.int .u64 (y0 : Int), .int .u64 (y1 : Int)], .bool odd]) (by simp [results, Tryz.results116, go_sem, xd0, xd1, yd0, yd1]) rfl ⟨_, _, x0, x1, y0, y1, odd, HL.out, rfl, BE.out.drew'⟩
      · have hA := HA.out; have hbB := HBB.out; have hn3 := HN3.out (by omega); have hrb := HRB.out
        obtain ⟨d, hd⟩ : ∃ d, b - r = d := ⟨_, rfl⟩
        obtain ⟨s, hs⟩ : ∃ s, y1 + ny = s := ⟨_, rfl⟩
        have e5 : IntKind.u64.wrap ((b : Int) - (r : Int)) = (d : Int) := by rw [IntKind.wrap_u64]; unfold B at *; omega
        have e6 : IntKind.u64.wrap ((y1 : Int) + (ny : Int)) = (s : Int) := by rw [IntKind.wrap_u64]; unfold B at *; omega
        have HD := Lib.hid hd; have HSS := Lib.hid hs; clear hA hbB hn3 hrb hd hs
        have hc1' : decide (r < ny) = false := by simp; omega
        obtain ⟨xc0, xc1, xf0, xf1⟩ := HX.out
        obtain ⟨yc0, yc1, yf0, yf1⟩ := HY.out
        by_cases hc2 : d < s
        · skip
          go_wp2
          clear e5 e6 xc0 xc1 xf0 xf1 yc0 yc1 yf0 yf1
          obtain ⟨xz0, xz1, xz2, xz3⟩ := HX.out.drew
          obtain ⟨yz0, yz1, yz2, yz3⟩ := HY.out.drew
          obtain ⟨xc0, xc1, xf0, xf1⟩ := HX.out
          obtain ⟨yc0, yc1, yf0, yf1⟩ := HY.out
          have bx := (HX.out.set2 (.int .u64 (x0 : Int)) (.int .u64 (x1 : Int))).far2 (g' := w.heap.size + 1) (by omega) (.int .u64 (y0 : Int)) (.int .u64 (y1 : Int))
          have by' := (HY.out.far2 (g' := w.heap.size) (by omega) (.int .u64 (x0 : Int)) (.int .u64 (x1 : Int))).set2 (.int .u64 (y0 : Int)) (.int .u64 (y1 : Int))
          have hbe := below_set2 (below_set2 HBE.out (g := w.heap.size) (by omega) (.int .u64 (x0 : Int)) (.int .u64 (x1 : Int))) (g := w.heap.size + 1) (by omega) (.int .u64 (y0 : Int)) (.int .u64 (y1 : Int))
          have BX := Lib.hid bx; have BY := Lib.hid by'; have BE := Lib.hid hbe; clear bx by' hbe
          obtain ⟨xs0, xs1, xt0, xt1⟩ := HX.out.set0 (.int .u64 (x0 : Int))
          obtain ⟨yd0, yd1, yg0, yg1⟩ := HY.out.far2 (g' := w.heap.size) (by omega) (.int .u64 (x0 : Int)) (.int .u64 (x1 : Int))
          obtain ⟨ys0, ys1, yt0, yt1⟩ := (HY.out.far2 (g' := w.heap.size) (by omega) (.int .u64 (x0 : Int)) (.int .u64 (x1 : Int))).set0 (.int .u64 (y0 : Int))
          go_region
          clear xz0 xz1 xz2 xz3 yz0 yz1 yz2 yz3 xc0 xc1 xf0 xf1 yc0 yc1 yf0 yf1 xs0 xs1 xt0 xt1 yd0 yd1 yg0 yg1 ys0 ys1 yt0 yt1
          obtain ⟨xc0, xc1, xf0, xf1⟩ := BX.out.drew
          obtain ⟨yc0, yc1, yf0, yf1⟩ := BY.out.drew
          obtain ⟨xd0, xd1, xg0, xg1⟩ := BX.out
          obtain ⟨yd0, yd1, yg0, yg1⟩ := BY.out
          go_wp2
          exact bodyPost_ret (v := .tuple #[.agg #[.int .u64 (x0 : Int), .int .u64 (x1 : Int)], .agg #[.int .u64 (y0 : Int), .int .u64 (y1 : Int)], .bool odd]) (by simp [results, Tryz.results116, go_sem, xd0, xd1, yd0, yd1]) rfl ⟨_, _, x0, x1, y0, y1, odd, HL.out, rfl, BE.out.drew'⟩
        · skip
          go_wp2
          clear e5 e6 xc0 xc1 xf0 xf1 yc0 yc1 yf0 yf1
          obtain ⟨xz0, xz1, xz2, xz3⟩ := HX.out.drew
          obtain ⟨yz0, yz1, yz2, yz3⟩ := HY.out.drew
          obtain ⟨xc0, xc1, xf0, xf1⟩ := HX.out
          obtain ⟨yc0, yc1, yf0, yf1⟩ := HY.out
          have bx := (HX.out.set2 (.int .u64 (x1 : Int)) (.int .u64 (nx : Int))).far2 (g' := w.heap.size + 1) (by omega) (.int .u64 (y1 : Int)) (.int .u64 (ny : Int))
          have by' := (HY.out.far2 (g' := w.heap.size) (by omega) (.int .u64 (x1 : Int)) (.int .u64 (nx : Int))).set2 (.int .u64 (y1 : Int)) (.int .u64 (ny : Int))
          have hbe := below_set2 (below_set2 HBE.out (g := w.heap.size) (by omega) (.int .u64 (x1 : Int)) (.int .u64 (nx : Int))) (g := w.heap.size + 1) (by omega) (.int .u64 (y1 : Int)) (.int .u64 (ny : Int))
          have BX := Lib.hid bx; have BY := Lib.hid by'; have BE := Lib.hid hbe; clear bx by' hbe
          obtain ⟨xs0, xs1, xt0, xt1⟩ := HX.out.set0 (.int .u64 (x1 : Int))
          obtain ⟨yd0, yd1, yg0, yg1⟩ := HY.out.far2 (g' := w.heap.size) (by omega) (.int .u64 (x1 : Int)) (.int .u64 (nx : Int))
          obtain ⟨ys0, ys1, yt0, yt1⟩ := (HY.out.far2 (g' := w.heap.size) (by omega) (.int .u64 (x1 : Int)) (.int .u64 (nx : Int))).set0 (.int .u64 (y1 : Int))
          go_region
          go_wp2
          have hst := HL.out.step H0'.out
          obtain ⟨k1, k2, k3, k4, k5, k6⟩ := HN.out
          rw [k1, k2, k3, k4, k5, k6] at hst
          refine ⟨⟨b, r, x1, nx, y1, ny, !odd, rfl, rfl, rfl, hst (by omega) (by have := HD.out; have := HSS.out; omega), BX.out.drew, BY.out.drew, BE.out.drew', HBB.out, Nat.lt_trans HRB.out HBB.out⟩, ?_⟩
          have := HRB.out
          simp [intOf]; omega
end Go.Proofs.YtbeohedkeklaiaaGreatDoor
/- mix. -/
namespace Go.Proofs.YtbeohedkeklaiaaGreatDoor
open Go.RowKit Go.MagM Go.MagG
theorem mix_over {P H o lo c A : Nat} (h1 : c ≤ A) (h2 : lo < P) {lo3 : Nat} (h3 : lo3 + P * H = A) (h4 : lo + c = lo3 + o * P) : o ≤ H := by
  rcases Nat.lt_or_ge H o with h | h
  · exfalso
    have := Nat.mul_le_mul_left P (show H + 1 ≤ o by omega)
    rw [Nat.mul_add, Nat.mul_one, Nat.mul_comm P o] at this
    omega
  · exact h
theorem mix_sum {P H o lo lo3 c A hi : Nat} (h3 : lo3 + P * H = A) (h4 : lo + c = lo3 + o * P) (h5 : hi + o = H) : lo + P * hi = A - c := by
  subst h5
  rw [Nat.mul_add, Nat.mul_comm P o] at h3
  omega
theorem mix_first (f2 : Nat → Nat) (n d over : Nat) : V (upd (spl (fun _ => 0) f2 0 n) n over) (n + (d + 1)) = V f2 n + over * B ^ n := by
  rw [show n + (d + 1) = n + 1 + d by omega, V_split, V_none (n := d), Nat.mul_zero, Nat.add_zero, V_upd_succ]
  · have := spl_V (fun _ => 0) f2 0 n
    rw [Nat.zero_add] at this
    rw [this, V_zero]; simp
  · intro i _
    rw [upd_other _ _ _ (by omega), spl_out _ _ (.inr (by omega))]
set_option maxRecDepth 100000 in
set_option maxHeartbeats 4000000 in
theorem mix_any (ao : Option Addr) (n ca : Nat) (f : Nat → Nat) (bo : Option Addr) (m cb : Nat) (fb : Nat → Nat) (p q K : Nat) (w : World) (hn : n ≤ 4000000000) (hm : m ≤ 4000000000) (hK : K = max n m + 1)
    (hra : Reads w ao n f) (hrb : Reads w bo m fb) (hp : p < B) (hq : q < B) (hle : V fb m * q ≤ V f n * p) :
    Calls Tryz.prog 118 #[.slice ao n ca, .int .u64 (p : Int), .slice bo m cb, .int .u64 (q : Int)] w fun e w' =>
      ∃ v, e = .returned v ∧ RMag w' v K (V f n * p - V fb m * q) ∧ Below w.heap.size w w' := by
  have HP := Lib.hid hp; have HQ := Lib.hid hq; have HA := Lib.hid hra; have HB := Lib.hid hrb; have HL := Lib.hid hle
  have hKn : n < K := by omega
  have hKm : m < K := by omega
  have hKx : K ≤ 4000000001 := by omega
  have HK := Lib.hid hK
  clear hp hq hra hrb hle hK
  go_enter Tryz.func118, Tryz.ntmps118
  go_wp2_with (first
    | (at_make; refine wpList_make_words rfl (.tmp 16) (.tmp 16) 30 rfl 49 under_words info_u64 .i64 .i64 _ _ K rfl rfl (by rw [HK.out]; omega) (by rw [HK.out]; omega) (by omega) ?_; intro w1 hh1 hb1 hs1; replace hh1 := Lib.hid hh1))
  all_goals
    go_wp2_with fail
    refine (addTimes_any w.heap.size 0 n _ _ _ _ p w1 (by omega) (fun _ => 0) f (Nat.le_refl _) HP.out (hh1.out.less (by omega)) (HA.out.below hb1) (HA.out.apart (Nat.le_refl _))).mono ?_
    rintro e w2 ⟨f2, over, rfl, hov, hh2, ht2, hv2, _⟩
    obtain ⟨hoc, hof, hoB⟩ := hh1.out n (by omega)
    have hoc2 : w2.cell? ⟨w.heap.size, n, none⟩ = some (.int .u64 0) := by
      rw [ht2.cell n (by omega)]; simpa using hoc
    have hof2 : w2.frozen? ⟨w.heap.size, n, none⟩ = false := by rw [ht2.frz]; simpa using hof
    have hh3 : Held (w2.setCell ⟨w.heap.size, n, none⟩ (.int .u64 (over : Int))) w.heap.size 0 K (upd (spl (fun _ => 0) f2 0 n) n over) := by
      have h := (hh1.out.splice (by simpa using ht2) (by simpa using hh2) (by omega)).setCell (k := n) hov hKn
      simpa using h
    have ht3 : Turn w.heap.size 0 K w1 (w2.setCell ⟨w.heap.size, n, none⟩ (.int .u64 (over : Int))) := (ht2.wider (by omega) (by omega)).setCell (by omega) (by omega) _
    have hbe3 : Below w.heap.size w (w2.setCell ⟨w.heap.size, n, none⟩ (.int .u64 (over : Int))) := ht3.below hb1 (Nat.le_refl _) (by omega)
    obtain ⟨f3, hf3⟩ : ∃ f3, upd (spl (fun _ => 0) f2 0 n) n over = f3 := ⟨_, rfl⟩
    have hV3 : V f3 K = V f n * p := by
      obtain ⟨d, hd⟩ : ∃ d, K = n + (d + 1) := ⟨K - n - 1, by omega⟩
      rw [← hf3, hd, mix_first, hv2, V_none (fun _ _ => rfl)]; simp
    rw [hf3] at hh3
    have HH3 := Lib.hid hh3; have HT3 := Lib.hid ht3; have HB3 := Lib.hid hbe3; have HV3 := Lib.hid hV3
    clear hov hh2 ht2 hv2 hoc hof hoB hh3 ht3 hbe3 hf3 hV3
    go_wp2_with fail
    clear hoc2 hof2
    generalize w2.setCell ⟨w.heap.size, n, none⟩ (.int .u64 (over : Int)) = w3 at *
    refine (takeTimes_any w.heap.size 0 m _ _ _ _ q w3 (by omega) f3 fb (Nat.le_refl _) HQ.out (HH3.out.less (by omega)) (HB.out.below HB3.out) (HB.out.apart (Nat.le_refl _))).mono ?_
    rintro e w4 ⟨f4, ov, rfl, hov, hh4, ht4, hv4, _⟩
    have hsp := V_split f3 m (K - m)
    rw [show m + (K - m) = K by omega, HV3.out] at hsp
    have h4lt := V_lt hh4.lt
    have hoH : ov ≤ V (fun i => f3 (m + i)) (K - m) := mix_over HL.out h4lt hsp.symm hv4
    have hb4 := (ht4.wider (o' := 0) (n' := K) (by omega) (by omega)).below HB3.out (Nat.le_refl _) HB3.out.size
    have hpart : Held w4 w.heap.size (0 + m) (K - m) (fun i => f3 (m + i)) := (HH3.out.part (k := m) (m := K - m) (by omega)).turn ht4 (.inr (by omega))
    have hlt : w.heap.size < w4.heap.size := hpart.lt_size (by omega)
    have hal : Below w4.heap.size w4 (w4.alloc (.cells #[.int .u64 (ov : Int)] 49)) := (Below.refl _ _).alloc (Nat.le_refl _) _
    have hrd : Reads (w4.alloc (.cells #[.int .u64 (ov : Int)] 49)) (some ⟨w4.heap.size, 0, none⟩) 1 (fun _ => ov) := by
      intro i hi
      refine ⟨w4.heap.size, 0, rfl, ?_, hov⟩
      have : i = 0 := by omega
      subst this
      exact World.cell?_alloc_new w4 _ _ _
    have HH4 := Lib.hid hh4; have HV4 := Lib.hid hv4; have HSP := Lib.hid hsp; have HOH := Lib.hid hoH; have HB4 := Lib.hid hb4; have HPT := Lib.hid hpart; have HLT := Lib.hid hlt; have HAL := Lib.hid hal; have HRD := Lib.hid hrd
    clear hov hh4 ht4 hv4 hsp h4lt hoH hb4 hpart hlt hal hrd
    have hcap : ¬ (K = m) := by omega
    go_wp2_with fail
    refine (takeFrom_any w.heap.size m (K - m) _ _ 1 _ _ (by omega) (fun i => f3 (m + i)) (fun _ => ov) (by omega) (by have := HPT.out.below HAL.out; simpa using this) HRD.out (fun _ b' o' e => by simp at e; have := HLT.out; omega) (by rw [V_one]; exact HOH.out)).mono ?_
    rintro e w5 ⟨rfl, f5, hh5, ht5, hv5⟩
    rw [V_one] at hv5
    have hlow : Held w5 w.heap.size 0 m f4 := (HH4.out.below HAL.out).turn ht5 (.inl (by omega))
    obtain ⟨F, hF⟩ : ∃ F : Nat → Nat, F = fun i => if i < m then f4 i else f5 (i - m) := ⟨_, rfl⟩
    have hjoin : Held w5 w.heap.size 0 (m + (K - m)) F := by
      refine Held.join (hlow.congr fun i hi => ?_) ((show Held w5 w.heap.size (0 + m) (K - m) f5 by simpa using hh5).congr fun i hi => ?_)
      · rw [hF]; simp [hi]
      · rw [hF]; simp only [show ¬ (m + i < m) by omega, if_false, Nat.add_sub_cancel_left]
    rw [show m + (K - m) = K by omega] at hjoin
    have hVF : V F K = V f n * p - V fb m * q := by
      have h1 := V_split F m (K - m)
      rw [show m + (K - m) = K by omega] at h1
      rw [h1, V_congr (f := F) (g := f4) (n := m) (fun i hi => by rw [hF]; simp [hi]), V_congr (f := fun i => F (m + i)) (g := f5) (n := K - m) (fun i hi => by rw [hF]; simp only [show ¬ (m + i < m) by omega, if_false, Nat.add_sub_cancel_left])]
      exact mix_sum HSP.out.symm HV4.out hv5
    have hb5 : Below w.heap.size w w5 := ht5.below (HB4.out.trans (HAL.out.mono HB4.out.size)) (Nat.le_refl _) (by have := HAL.out.size; have := HB4.out.size; omega)
    have HJ := Lib.hid hjoin; have HVF := Lib.hid hVF; have HB5 := Lib.hid hb5
    clear hjoin hVF hb5 hlow hh5 ht5 hv5 hF
    go_wp2_with fail
    refine (trim_any _ _ _ _ (by omega) F (Nat.le_refl _) HJ.out.reads).mono ?_
    rintro e w6 ⟨rfl, rfl⟩
    go_wp2
    go_ret
    have hfin := RMag.of_trim HJ.out.reads (Nat.le_refl K)
    rw [HVF.out] at hfin
    exact ⟨_, rfl, hfin, HB5.out⟩
end Go.Proofs.YtbeohedkeklaiaaGreatDoor
/- What head tells: the number over the last bits, rounded down. -/
namespace Go.Proofs.YtbeohedkeklaiaaGreatDoor
open Go.RowKit Go.MagM
theorem zx_V (f : Nat → Nat) {n k : Nat} (hk : n ≤ k) : V (zx f n) k = V f n := by
  obtain ⟨d, rfl⟩ : ∃ d, k = n + d := ⟨k - n, by omega⟩
  rw [V_split, V_congr (f := zx f n) (g := f) (n := n) (fun i hi => if_pos hi), V_none (f := fun i => zx f n (n + i)) (fun i _ => if_neg (by omega))]; simp
theorem head_val (f : Nat → Nat) (n t s : Nat) (hf : ∀ i, i < n → f i < B) (hn : n ≤ t + 2) (hs : s ≤ 63) (htop : zx f n (t + 1) * 2 ^ s < B) :
    zx f n (t + 1) * 2 ^ s % B + zx f n t * 2 ^ s / B = V f n / (B ^ t * 2 ^ (64 - s)) := by
  have hz : ∀ i, zx f n i < B := zx_lt hf
  have h1 : V f n / B ^ t = zx f n t + zx f n (t + 1) * B := by
    rw [← zx_V f hn]
    have h2 := V_high (zx f n) (k := t) (n := 2) (fun i _ => hz i)
    rw [← h2, show (2 : Nat) = 1 + 1 from rfl, V_succ, V_one, Nat.pow_one]; rfl
  rw [← Nat.div_div_eq_div_mul, h1, Nat.mod_eq_of_lt htop, ← shr_eq _ s (by omega)]
  rw [show zx f n (t + 1) * B = 2 ^ (64 - s) * (zx f n (t + 1) * 2 ^ s) by rw [B_pow s (by omega), Nat.mul_left_comm]]
  rw [Nat.add_mul_div_left _ _ (Nat.pow_pos (by omega)), Nat.add_comm]
end Go.Proofs.YtbeohedkeklaiaaGreatDoor
/- nearer. -/
namespace Go.Proofs.YtbeohedkeklaiaaGreatDoor
open Go.RowKit Go.MagM Go.MagG
theorem mix_mag (va vb : Value) (L M A C p q : Nat) (w : World) (hL : L ≤ 4000000000) (hM : M ≤ 4000000000) (ha : Mag w va L A) (hb : Mag w vb M C) (hp : p < B) (hq : q < B) (hle : C * q ≤ A * p) :
    Calls Tryz.prog 118 #[va, .int .u64 (p : Int), vb, .int .u64 (q : Int)] w fun e w' => ∃ v, e = .returned v ∧ RMag w' v (max L M + 1) (A * p - C * q) ∧ Below w.heap.size w w' := by
  obtain ⟨ao, n, ca, f, rfl, h1, h2, h3, rfl⟩ := ha
  obtain ⟨bo, m, cb, g, rfl, k1, k2, k3, rfl⟩ := hb
  refine (mix_any ao n ca f bo m cb g p q (max n m + 1) w (by omega) (by omega) rfl h3 k3 hp hq hle).mono ?_
  rintro e w' ⟨v, h4, h5, h6⟩
  exact ⟨v, h4, h5.more (by omega), h6⟩
/-- The heads of two numbers, and what is below. -/
theorem heads {f g : Nat → Nat} {n m T t s : Nat} (hf : ∀ i, i < n → f i < B) (hg : ∀ i, i < m → g i < B) (hn : n = T + 1) (hT : T = t + 1) (hmn : m ≤ n) (hle : V g m ≤ V f n) (h0 : f T ≠ 0) (hs : s = 64 - bl (f T)) :
    s ≤ 63 ∧ zx f n T * 2 ^ s % B + zx f n t * 2 ^ s / B = V f n / (B ^ t * 2 ^ (64 - s)) ∧ zx g m T * 2 ^ s % B + zx g m t * 2 ^ s / B = V g m / (B ^ t * 2 ^ (64 - s)) ∧
      zx f n T * 2 ^ s % B + zx f n t * 2 ^ s / B < B ∧ zx g m T * 2 ^ s % B + zx g m t * 2 ^ s / B < B := by
  have hb1 := bl_pos h0
  have hs63 : s ≤ 63 := by omega
  have hxB : f T < B := hf T (by omega)
  have hbl : bl (f T) ≤ 64 := by
    rcases Nat.lt_or_ge 64 (bl (f T)) with h | h
    · exfalso
      have h1 := bl_ge h0
      have h2 : 2 ^ 64 ≤ 2 ^ (bl (f T) - 1) := Nat.pow_le_pow_right (by omega) (by omega)
      have h3 : B = 2 ^ 64 := rfl
      omega
    · exact h
  have hzf : zx f n T = f T := if_pos (by omega)
  have htop : zx f n T * 2 ^ s < B := by
    rw [hzf]
    have h1 := bl_lt (f T)
    have h2 : f T * 2 ^ s < 2 ^ bl (f T) * 2 ^ s := Nat.mul_lt_mul_of_pos_right h1 (Nat.pow_pos (by omega))
    rw [← Nat.pow_add, show bl (f T) + s = 64 by omega] at h2
    exact h2
  have hcmp : zx g m T ≤ zx f n T := by
    rcases Nat.lt_or_ge (zx f n T) (zx g m T) with h | h
    · exfalso
      have h1 : V (zx g m) (T + 1) = V g m := zx_V g (by omega)
      have h2 : V (zx f n) (T + 1) = V f n := zx_V f (by omega)
      rw [V_succ] at h1 h2
      have h3 : V (zx f n) T < B ^ T := V_lt (fun i _ => zx_lt hf i)
      have h4 := Nat.mul_le_mul_right (B ^ T) (show zx f n T + 1 ≤ zx g m T by omega)
      rw [Nat.add_mul, Nat.one_mul] at h4
      omega
    · exact h
  have htop2 : zx g m T * 2 ^ s < B := Nat.lt_of_le_of_lt (Nat.mul_le_mul_right _ hcmp) htop
  have l1 := up_lt (zx f n T) (zx_lt hf t) (show s ≤ 64 by omega)
  have l2 := up_lt (zx g m T) (zx_lt hg t) (show s ≤ 64 by omega)
  subst hT
  exact ⟨hs63, head_val f n t s hf (by omega) hs63 htop, head_val g m t s hg (by omega) hs63 htop2, l1, l2⟩
/-- What nearer answers. -/
def Near (w w' : World) (e : Ending) (L A C : Nat) : Prop := ∃ va vb P Q, e = .returned (.tuple #[va, vb]) ∧ RMag w' va L P ∧ RMag w' vb L Q ∧ Q ≤ P ∧ Nat.gcd P Q = Nat.gcd A C ∧ P + Q < A + C ∧ P ≤ A ∧ Below w.heap.size w w'
set_option maxRecDepth 100000 in
set_option maxHeartbeats 4000000 in
theorem nearer_core (ao : Option Addr) (n ca : Nat) (f : Nat → Nat) (bo : Option Addr) (m cb : Nat) (g : Nat → Nat) (T t s : Nat) (w : World) (hn4 : n ≤ 4000000000) (hn : n = T + 1) (hT : T = t + 1) (hmn : m ≤ n) (hca : n ≤ ca) (hcb : m ≤ cb)
    (hra : Reads w ao n f) (hrb : Reads w bo m g) (rf : Right f n) (rg : Right g m) (hm0 : m ≠ 0) (hle : V g m ≤ V f n) (hs : s = 64 - bl (f T)) :
    Calls Tryz.prog 88 #[.slice ao n ca, .slice bo m cb] w fun e w' => Near w w' e n (V f n) (V g m) := by
  have hfT : f T ≠ 0 := rf T hn
  obtain ⟨hs63, ha1, hb1, ha2, hb2⟩ := heads hra.lt hrb.lt hn hT hmn hle hfT hs
  have hn1 : (n : Int) - 1 = (T : Int) := by omega
  have hTn : T < n := by omega
  have hT1 : (T : Int) - 1 = (t : Int) := by omega
  have hA1 := fun w' (h : Below w.heap.size w w') => head_any ao n ca T t s f w' (by omega) hT1 hs63 (hra.below h)
  have hB1 := fun w' (h : Below w.heap.size w w') => head_any bo m cb T t s g w' (by omega) hT1 hs63 (hrb.below h)
  obtain ⟨A0, hA0⟩ : ∃ A0, zx f n T * 2 ^ s % B + zx f n t * 2 ^ s / B = A0 := ⟨_, rfl⟩
  obtain ⟨B0, hB0'⟩ : ∃ B0, zx g m T * 2 ^ s % B + zx g m t * 2 ^ s / B = B0 := ⟨_, rfl⟩
  rw [hA0] at ha1 ha2 hA1
  rw [hB0'] at hb1 hb2 hB1
  obtain ⟨S, hS⟩ : ∃ S, B ^ t * 2 ^ (64 - s) = S := ⟨_, rfl⟩
  rw [hS] at ha1 hb1
  have hSp : 0 < S := by rw [← hS]; exact Nat.mul_pos (Bp t) (Nat.pow_pos (by omega))
  obtain ⟨A, hA⟩ : ∃ A, V f n = A := ⟨_, rfl⟩
  obtain ⟨C, hC⟩ : ∃ C, V g m = C := ⟨_, rfl⟩
  have ax_0 : Mag w (.slice ao n ca) n A := ⟨ao, n, ca, f, rfl, hca, Nat.le_refl _, hra, hA⟩
  have bx_0 : Mag w (.slice bo m cb) m C := ⟨bo, m, cb, g, rfl, hcb, Nat.le_refl _, hrb, hC⟩
  have bq_0 : RMag w (.slice bo m cb) m C := ⟨bo, m, cb, g, rfl, hcb, Nat.le_refl _, hrb, hC, rg⟩
  have hC0 : 0 < C := by
    obtain ⟨k, rfl⟩ : ∃ k, m = k + 1 := ⟨m - 1, by omega⟩
    have := rg.ge; have := Bp k; omega
  rw [hA, hC] at hle
  rw [hA] at ha1 ⊢
  rw [hC] at hb1 ⊢
  have h0A : B0 ≤ A0 := by rw [ha1, hb1]; exact Nat.div_le_div_right hle
  have eA : A0 * S + A % S = A := by rw [ha1, Nat.mul_comm]; exact Nat.div_add_mod A S
  have eC : B0 * S + C % S = C := by rw [hb1, Nat.mul_comm]; exact Nat.div_add_mod C S
  have HLP := Lib.hid (leap_any A0 B0 · ha2 hb2 h0A)
  obtain ⟨xb, xo, rfl, hxc, hxB⟩ := hra T hTn
  obtain ⟨x, hx⟩ : ∃ x, f T = x := ⟨_, rfl⟩
  rw [hx] at hxc hxB hs
  have HLD := Lib.hid (lead64_any x · hxB)
  have HS := Lib.hid hs
  have HA1 := Lib.hid hA1; have HB1 := Lib.hid hB1; have HEA := Lib.hid eA; have HEC := Lib.hid eC; have HSP := Lib.hid hSp; have HLE := Lib.hid hle; have HC0 := Lib.hid hC0; have HMN := Lib.hid hmn
  have HHA := Lib.hid ha2; have HHB := Lib.hid hb2
  clear hA1 hB1 eA eC hSp hle ha1 hb1 ha2 hb2 h0A hA hC hS hA0 hB0' hra hrb rf rg hfT hs63 hT1 hn hT hx hxB hs hC0 hm0 hmn hca hcb
  have hB_0 := Below.refl w.heap.size w
  go_enter Tryz.func88, Tryz.ntmps88
  go_wp2_with fail
  refine (HLD.out _).mono ?_
  rintro e w' ⟨rfl, rfl⟩
  have hss : ((64 - bl x : Nat) : Int) = (s : Int) := by rw [← HS.out]
  go_wp2_with fail
  refine (HA1.out _ hB_0).mono ?_
  rintro e w1 ⟨q, rfl, hq⟩
  obtain ⟨hb1, hz⟩ := drewN_size hq
  clear hq hz
  have hB_1 := hB_0.trans (hb1.mono hB_0.size)
  have ax_1 := ax_0.below hb1
  have bx_1 := bx_0.below hb1
  have bq_1 := bq_0.below hb1
  clear hb1 hB_0 ax_0 bx_0 bq_0
  go_wp2_with fail
  refine (HB1.out _ hB_1).mono ?_
  rintro e w2 ⟨q, rfl, hq⟩
  obtain ⟨hb2, hz⟩ := drewN_size hq
  clear hq hz
  have hB_2 := hB_1.trans (hb2.mono hB_1.size)
  have ax_2 := ax_1.below hb2
  have bx_2 := bx_1.below hb2
  have bq_2 := bq_1.below hb2
  clear hb2 hB_1 ax_1 bx_1 bq_1
  go_wp2_with fail
  refine (HLP.out _).mono ?_
  rintro e w3 ⟨a, b, x0, x1, y0, y1, odd, hl, rfl, hb3⟩
  have hB_3 := hB_2.trans (hb3.mono hB_2.size)
  have ax_3 := ax_2.below hb3
  have bx_3 := bx_2.below hb3
  have bq_3 := bq_2.below hb3
  clear hb3 hB_2 ax_2 bx_2 bq_2
  have HL := Lib.hid hl; clear hl HA1 HB1 HLP HLD hss HS
  by_cases hy : y0 = 0
  · skip
    have hy' : ((y0 : Int) == 0) = true := by subst hy; rfl
    clear hy
    go_wp2_with fail
    obtain ⟨px_0, py_0, hb4⟩ := boxed2 w3 (.int .u64 (x0 : Int)) (.int .u64 (x1 : Int)) (.int .u64 (y0 : Int)) (.int .u64 (y1 : Int)) 137
    have hB_4 := hB_3.trans (hb4.mono hB_3.size)
    have ax_4 := ax_3.below hb4
    have bx_4 := bx_3.below hb4
    have bq_4 := bq_3.below hb4
    clear hb4 hB_3 ax_3 bx_3 bq_3
    generalize ((w3.alloc (Obj.cells #[Value.int .u64 (x0 : Int), Value.int .u64 (x1 : Int)] 137)).alloc (Obj.cells #[Value.int .u64 (y0 : Int), Value.int .u64 (y1 : Int)] 137)) = w4 at *
    have hmn : m ≤ n := HMN.out
    refine (Div_any _ _ n m A C _ (by omega) (by omega) ax_4 bx_4).mono ?_
    rintro e w9 ⟨vq, vr, rfl, h1, h2, hb9⟩
    have hB_5 := hB_4.trans (hb9.mono hB_4.size)
    have ax_5 := ax_4.below hb9
    have bx_5 := bx_4.below hb9
    have bq_5 := bq_4.below hb9
    have px_1 := px_0.below hb9
    have py_1 := py_0.below hb9
    clear hb9 hB_4 ax_4 bx_4 bq_4 px_0 py_0
    go_wp2
    go_ret2
    have hC := HC0.out
    have hl := Nat.mod_lt A hC
    have hle := HLE.out
    refine ⟨_, _, C, A % C, rfl, bq_5.more hmn, h2, Nat.le_of_lt hl, ?_, by omega, hle, hB_5⟩
    rw [Nat.gcd_comm C, ← Nat.gcd_rec, Nat.gcd_comm]
  · skip
    have hy' : ((y0 : Int) == 0) = false := by simp only [beq_eq_false_iff_ne]; omega
    obtain ⟨P, Q, he, ho, hQP, hgcd, hPA, hPC, k1, k2, k3⟩ := HL.out.pair hy S (A % S) (C % S) (Nat.mod_lt _ HSP.out) (Nat.mod_lt _ HSP.out)
    rw [HEA.out, HEC.out] at he ho hgcd
    rw [HEA.out] at hPA
    rw [HEC.out] at hPC
    have hA0 : 0 < A := Nat.lt_of_lt_of_le HC0.out HLE.out
    obtain ⟨hless, hPle⟩ := less_pair A C P Q x0 x1 y0 y1 hPA hPC k1 k2 k3 hQP hA0
    have hb4 : x0 < B ∧ x1 < B ∧ y0 < B ∧ y1 < B := by
      rcases HL.out.gone with hg | hg
      · exact absurd hg.1 hy
      · have h1 := HL.out.detA
        have h2 := HHA.out
        have h3 := Nat.mul_le_mul_right a (show 1 ≤ y1 by omega)
        rw [Nat.one_mul] at h3
        omega
    obtain ⟨hx0, hx1, hy0, hy1⟩ := hb4
    have hmn : m ≤ n := HMN.out
    have HX0 := Lib.hid hx0; have HX1 := Lib.hid hx1; have HY0 := Lib.hid hy0; have HY1 := Lib.hid hy1; have HMN2 := Lib.hid hmn
    have HQP := Lib.hid hQP; have HG := Lib.hid hgcd; have HLS := Lib.hid hless; have HPL := Lib.hid hPle
    clear hQP hgcd hPA hPC k1 k2 k3 hA0 hless hPle hx0 hx1 hy0 hy1 hmn hy
    cases odd with
    | false =>
      obtain ⟨r1, r2⟩ := he rfl
      clear he ho
      have E1 := Lib.hid (show C * y0 ≤ A * x0 by rw [Nat.mul_comm C, Nat.mul_comm A]; omega)
      have E2 := Lib.hid (show A * x1 ≤ C * y1 by rw [Nat.mul_comm C, Nat.mul_comm A]; omega)
      have E3 := Lib.hid (show A * x0 - C * y0 = P by rw [Nat.mul_comm C, Nat.mul_comm A]; omega)
      have E4 := Lib.hid (show C * y1 - A * x1 = Q by rw [Nat.mul_comm C, Nat.mul_comm A]; omega)
      clear r1 r2
      have hmn : m ≤ n := HMN2.out
      go_wp2
      obtain ⟨px_0, py_0, hb4⟩ := boxed2 w3 (.int .u64 (x0 : Int)) (.int .u64 (x1 : Int)) (.int .u64 (y0 : Int)) (.int .u64 (y1 : Int)) 137
      have hB_4 := hB_3.trans (hb4.mono hB_3.size)
      have ax_4 := ax_3.below hb4
      have bx_4 := bx_3.below hb4
      have bq_4 := bq_3.below hb4
      clear hb4 hB_3 ax_3 bx_3 bq_3
      generalize ((w3.alloc (Obj.cells #[Value.int .u64 (x0 : Int), Value.int .u64 (x1 : Int)] 137)).alloc (Obj.cells #[Value.int .u64 (y0 : Int), Value.int .u64 (y1 : Int)] 137)) = w4 at *
      have hB_5 := hB_4.drew'
      have ax_5 := ax_4.drew
      have bx_5 := bx_4.drew
      have bq_5 := bq_4.drew
      have px_1 := px_0.drew
      have py_1 := py_0.drew
      refine wp_region_noPanic ?_
      refine wp_region_held_drew (S := fun w' => w'.cell? ⟨w3.heap.size, 0, none⟩ = some (.int .u64 (x0 : Int)) ∧ w'.cell? ⟨w3.heap.size, 1, none⟩ = some (.int .u64 (x1 : Int)) ∧ w'.cell? ⟨w3.heap.size + 1, 0, none⟩ = some (.int .u64 (y0 : Int)) ∧ w'.cell? ⟨w3.heap.size + 1, 1, none⟩ = some (.int .u64 (y1 : Int))) (by kernel_rfl) (⟨px_1.c0, px_1.c1, py_1.c0, py_1.c1⟩) (fun hHeld => ?_)
      refine reg_take 0 ?_ ?_ ?_ (by kernel_rfl) (by kernel_rfl) (by kernel_rfl) (fun _ _ _ h => h) ?_ ?_ (by assumption) ?_
      rotate_left 2
      · simp only [List.getElem?_toArray, List.getElem?_cons_zero]; exact rfl
      · rfl
      · intro w hSw; (try dsimp only at hSw); go_simp; try with_reducible rfl
      try simp only [Act.put]
      try simp only [List.setIfInBounds_toArray, List.set_cons_zero, List.set_cons_succ]
      refine reg_take 1 ?_ ?_ ?_ (by kernel_rfl) (by kernel_rfl) (by kernel_rfl) (fun _ _ _ h => h) ?_ ?_ (by assumption) ?_
      rotate_left 2
      · simp only [List.getElem?_toArray, List.getElem?_cons_succ, List.getElem?_cons_zero]; exact rfl
      · rfl
      · intro w hSw; (try dsimp only at hSw); go_simp; try with_reducible rfl
      try simp only [Act.put]
      try simp only [List.setIfInBounds_toArray, List.set_cons_zero, List.set_cons_succ]
      refine reg_take 2 ?_ ?_ ?_ (by kernel_rfl) (by kernel_rfl) (by kernel_rfl) (fun _ _ _ h => h) ?_ ?_ (by assumption) ?_
      rotate_left 2
      · simp only [List.getElem?_toArray, List.getElem?_cons_succ, List.getElem?_cons_zero]; exact rfl
      · rfl
      · intro w hSw; (try dsimp only at hSw); go_simp; try with_reducible rfl
      try simp only [Act.put]
      try simp only [List.setIfInBounds_toArray, List.set_cons_zero, List.set_cons_succ]
      refine reg_take 3 ?_ ?_ ?_ (by kernel_rfl) (by kernel_rfl) (by kernel_rfl) (fun _ _ _ h => h) ?_ ?_ (by assumption) ?_
      rotate_left 2
      · simp only [List.getElem?_toArray, List.getElem?_cons_succ, List.getElem?_cons_zero]; exact rfl
      · rfl
      · intro w hSw; (try dsimp only at hSw); go_simp; try with_reducible rfl
      try simp only [Act.put]
      try simp only [List.setIfInBounds_toArray, List.set_cons_zero, List.set_cons_succ]
      refine reg_take 4 ?_ ?_ ?_ (by kernel_rfl) (by kernel_rfl) (by kernel_rfl) (fun _ _ _ h => h) ?_ ?_ (by assumption) ?_
      rotate_left 2
      · simp only [List.getElem?_toArray, List.getElem?_cons_succ, List.getElem?_cons_zero]; exact rfl
      · rfl
      · intro w hSw; (try dsimp only at hSw); go_simp; try with_reducible rfl
      try simp only [Act.put]
      try simp only [List.setIfInBounds_toArray, List.set_cons_zero, List.set_cons_succ]
      refine reg_take 5 ?_ ?_ ?_ (by kernel_rfl) (by kernel_rfl) (by kernel_rfl) (fun _ _ _ h => h) ?_ ?_ (by assumption) ?_
      rotate_left 2
      · simp only [List.getElem?_toArray, List.getElem?_cons_succ, List.getElem?_cons_zero]; exact rfl
      · rfl
      · intro w hSw; (try dsimp only at hSw); go_simp; try with_reducible rfl
      try simp only [Act.put]
      try simp only [List.setIfInBounds_toArray, List.set_cons_zero, List.set_cons_succ]
      refine reg_take 7 ?_ ?_ ?_ (by kernel_rfl) (by kernel_rfl) (by kernel_rfl) (fun _ _ _ h => h) ?_ ?_ (by assumption) ?_
      rotate_left 2
      · simp only [List.getElem?_toArray, List.getElem?_cons_succ, List.getElem?_cons_zero]; exact rfl
      · rfl
      · intro w hSw; (try dsimp only at hSw); go_simp; try with_reducible rfl
      try simp only [Act.put]
      try simp only [List.setIfInBounds_toArray, List.set_cons_zero, List.set_cons_succ]
      refine reg_take 8 ?_ ?_ ?_ (by kernel_rfl) (by kernel_rfl) (by kernel_rfl) (fun _ _ _ h => h) ?_ ?_ (by assumption) ?_
      rotate_left 2
      · simp only [List.getElem?_toArray, List.getElem?_cons_succ, List.getElem?_cons_zero]; exact rfl
      · rfl
      · intro w hSw; (try dsimp only at hSw); go_simp; try with_reducible rfl
      try simp only [Act.put]
      try simp only [List.setIfInBounds_toArray, List.set_cons_zero, List.set_cons_succ]
      refine reg_take 9 ?_ ?_ ?_ (by kernel_rfl) (by kernel_rfl) (by kernel_rfl) (fun _ _ _ h => h) ?_ ?_ (by assumption) ?_
      rotate_left 2
      · simp only [List.getElem?_toArray, List.getElem?_cons_succ, List.getElem?_cons_zero]; exact rfl
      · rfl
      · intro w hSw; (try dsimp only at hSw); go_simp; try with_reducible rfl
      try simp only [Act.put]
      try simp only [List.setIfInBounds_toArray, List.set_cons_zero, List.set_cons_succ]
      refine reg_take 10 ?_ ?_ ?_ (by kernel_rfl) (by kernel_rfl) (by kernel_rfl) (fun _ _ _ h => h) ?_ ?_ (by assumption) ?_
      rotate_left 2
      · simp only [List.getElem?_toArray, List.getElem?_cons_succ, List.getElem?_cons_zero]; exact rfl
      · rfl
      · intro w hSw; (try dsimp only at hSw); go_simp; try with_reducible rfl
      try simp only [Act.put]
      try simp only [List.setIfInBounds_toArray, List.set_cons_zero, List.set_cons_succ]
      refine reg_take 11 ?_ ?_ ?_ (by kernel_rfl) (by kernel_rfl) (by kernel_rfl) (fun _ _ _ h => h) ?_ ?_ (by assumption) ?_
      rotate_left 2
      · simp only [List.getElem?_toArray, List.getElem?_cons_succ, List.getElem?_cons_zero]; exact rfl
      · rfl
      · intro w hSw; (try dsimp only at hSw); go_simp; try with_reducible rfl
      try simp only [Act.put]
      try simp only [List.setIfInBounds_toArray, List.set_cons_zero, List.set_cons_succ]
      refine reg_take 12 ?_ ?_ ?_ (by kernel_rfl) (by kernel_rfl) (by kernel_rfl) (fun _ _ _ h => h) ?_ ?_ (by assumption) ?_
      rotate_left 2
      · simp only [List.getElem?_toArray, List.getElem?_cons_succ, List.getElem?_cons_zero]; exact rfl
      · rfl
      · intro w hSw; (try dsimp only at hSw); go_simp; try with_reducible rfl
      try simp only [Act.put]
      try simp only [List.setIfInBounds_toArray, List.set_cons_zero, List.set_cons_succ]
      refine reg_call 6 ?_ (by kernel_rfl) ?_ (fun K hK => ?_)
      rotate_left 1
      · simp only [List.getElem?_toArray, List.getElem?_cons_succ, List.getElem?_cons_zero]; exact rfl
      go_simp
      refine (mix_mag _ _ n m A C x0 y0 _ (by omega) (by omega) ax_5 bx_5 HX0.out HY0.out E1.out).mono ?_
      rintro e w5 ⟨v1, rfl, h1_0, hb5⟩
      have hB_6 := hB_5.trans (hb5.mono hB_5.size)
      have ax_6 := ax_5.below hb5
      have bx_6 := bx_5.below hb5
      have bq_6 := bq_5.below hb5
      have px_2 := px_1.below hb5
      have py_2 := py_1.below hb5
      clear hb5 hB_5 ax_5 bx_5 bq_5 px_1 py_1
      go_wp2_with fail
      refine hK.out _ _ ⟨px_2.c0, px_2.c1, py_2.c0, py_2.c1⟩ (fun hHeld => ?_)
      clear hK K
      try simp only [Act.put]
      try simp only [List.setIfInBounds_toArray, List.set_cons_zero, List.set_cons_succ]
      refine reg_call 13 ?_ (by kernel_rfl) ?_ (fun K hK => ?_)
      rotate_left 1
      · simp only [List.getElem?_toArray, List.getElem?_cons_succ, List.getElem?_cons_zero]; exact rfl
      go_simp
      refine (mix_mag _ _ m n C A y1 x1 _ (by omega) (by omega) bx_6 ax_6 HY1.out HX1.out E2.out).mono ?_
      rintro e w6 ⟨v2, rfl, h2_0, hb6⟩
      have hB_7 := hB_6.trans (hb6.mono hB_6.size)
      have ax_7 := ax_6.below hb6
      have bx_7 := bx_6.below hb6
      have bq_7 := bq_6.below hb6
      have px_3 := px_2.below hb6
      have py_3 := py_2.below hb6
      have h1_1 := h1_0.below hb6
      clear hb6 hB_6 ax_6 bx_6 bq_6 px_2 py_2 h1_0
      go_wp2_with fail
      refine hK.out _ _ ⟨px_3.c0, px_3.c1, py_3.c0, py_3.c1⟩ (fun hHeld => ?_)
      clear hK K
      try simp only [Act.put]
      try simp only [List.setIfInBounds_toArray, List.set_cons_zero, List.set_cons_succ]
      refine reg_take 14 ?_ ?_ ?_ (by kernel_rfl) (by kernel_rfl) (by kernel_rfl) (fun _ _ _ h => h) ?_ ?_ (by assumption) ?_
      rotate_left 2
      · simp only [List.getElem?_toArray, List.getElem?_cons_succ, List.getElem?_cons_zero]; exact rfl
      · rfl
      · intro w hSw; (try dsimp only at hSw); go_simp; try with_reducible rfl
      try simp only [Act.put]
      try simp only [List.setIfInBounds_toArray, List.set_cons_zero, List.set_cons_succ]
      refine reg_take 15 ?_ ?_ ?_ (by kernel_rfl) (by kernel_rfl) (by kernel_rfl) (fun _ _ _ h => h) ?_ ?_ (by assumption) ?_
      rotate_left 2
      · simp only [List.getElem?_toArray, List.getElem?_cons_succ, List.getElem?_cons_zero]; exact rfl
      · rfl
      · intro w hSw; (try dsimp only at hSw); go_simp; try with_reducible rfl
      try simp only [Act.put]
      try simp only [List.setIfInBounds_toArray, List.set_cons_zero, List.set_cons_succ]
      refine wpAnyH_done (by kernel_rfl) ?_ _
      refine NoPanic.normal ?_
      go_wp2
      go_ret2
      have hlt := ax_7.lt
      have hP := HPL.out
      have hQ := HQP.out
      exact ⟨_, _, P, Q, rfl, (E3.out ▸ h1_1).short (by omega), (E4.out ▸ h2_0).short (by omega), hQ, HG.out, HLS.out, hP, hB_7⟩
    | true =>
      obtain ⟨r1, r2⟩ := ho rfl
      clear he ho
      have E1 := Lib.hid (show A * x0 ≤ C * y0 by rw [Nat.mul_comm C, Nat.mul_comm A]; omega)
      have E2 := Lib.hid (show C * y1 ≤ A * x1 by rw [Nat.mul_comm C, Nat.mul_comm A]; omega)
      have E3 := Lib.hid (show C * y0 - A * x0 = P by rw [Nat.mul_comm C, Nat.mul_comm A]; omega)
      have E4 := Lib.hid (show A * x1 - C * y1 = Q by rw [Nat.mul_comm C, Nat.mul_comm A]; omega)
      clear r1 r2
      have hmn : m ≤ n := HMN2.out
      go_wp2
      obtain ⟨px_0, py_0, hb4⟩ := boxed2 w3 (.int .u64 (x0 : Int)) (.int .u64 (x1 : Int)) (.int .u64 (y0 : Int)) (.int .u64 (y1 : Int)) 137
      have hB_4 := hB_3.trans (hb4.mono hB_3.size)
      have ax_4 := ax_3.below hb4
      have bx_4 := bx_3.below hb4
      have bq_4 := bq_3.below hb4
      clear hb4 hB_3 ax_3 bx_3 bq_3
      generalize ((w3.alloc (Obj.cells #[Value.int .u64 (x0 : Int), Value.int .u64 (x1 : Int)] 137)).alloc (Obj.cells #[Value.int .u64 (y0 : Int), Value.int .u64 (y1 : Int)] 137)) = w4 at *
      have hB_5 := hB_4.drew'
      have ax_5 := ax_4.drew
      have bx_5 := bx_4.drew
      have bq_5 := bq_4.drew
      have px_1 := px_0.drew
      have py_1 := py_0.drew
      refine wp_region_noPanic ?_
      refine wp_region_held_drew (S := fun w' => w'.cell? ⟨w3.heap.size, 0, none⟩ = some (.int .u64 (x0 : Int)) ∧ w'.cell? ⟨w3.heap.size, 1, none⟩ = some (.int .u64 (x1 : Int)) ∧ w'.cell? ⟨w3.heap.size + 1, 0, none⟩ = some (.int .u64 (y0 : Int)) ∧ w'.cell? ⟨w3.heap.size + 1, 1, none⟩ = some (.int .u64 (y1 : Int))) (by kernel_rfl) (⟨px_1.c0, px_1.c1, py_1.c0, py_1.c1⟩) (fun hHeld => ?_)
      refine reg_take 0 ?_ ?_ ?_ (by kernel_rfl) (by kernel_rfl) (by kernel_rfl) (fun _ _ _ h => h) ?_ ?_ (by assumption) ?_
      rotate_left 2
      · simp only [List.getElem?_toArray, List.getElem?_cons_zero]; exact rfl
      · rfl
      · intro w hSw; (try dsimp only at hSw); go_simp; try with_reducible rfl
      try simp only [Act.put]
      try simp only [List.setIfInBounds_toArray, List.set_cons_zero, List.set_cons_succ]
      refine reg_take 1 ?_ ?_ ?_ (by kernel_rfl) (by kernel_rfl) (by kernel_rfl) (fun _ _ _ h => h) ?_ ?_ (by assumption) ?_
      rotate_left 2
      · simp only [List.getElem?_toArray, List.getElem?_cons_succ, List.getElem?_cons_zero]; exact rfl
      · rfl
      · intro w hSw; (try dsimp only at hSw); go_simp; try with_reducible rfl
      try simp only [Act.put]
      try simp only [List.setIfInBounds_toArray, List.set_cons_zero, List.set_cons_succ]
      refine reg_take 2 ?_ ?_ ?_ (by kernel_rfl) (by kernel_rfl) (by kernel_rfl) (fun _ _ _ h => h) ?_ ?_ (by assumption) ?_
      rotate_left 2
      · simp only [List.getElem?_toArray, List.getElem?_cons_succ, List.getElem?_cons_zero]; exact rfl
      · rfl
      · intro w hSw; (try dsimp only at hSw); go_simp; try with_reducible rfl
      try simp only [Act.put]
      try simp only [List.setIfInBounds_toArray, List.set_cons_zero, List.set_cons_succ]
      refine reg_take 3 ?_ ?_ ?_ (by kernel_rfl) (by kernel_rfl) (by kernel_rfl) (fun _ _ _ h => h) ?_ ?_ (by assumption) ?_
      rotate_left 2
      · simp only [List.getElem?_toArray, List.getElem?_cons_succ, List.getElem?_cons_zero]; exact rfl
      · rfl
      · intro w hSw; (try dsimp only at hSw); go_simp; try with_reducible rfl
      try simp only [Act.put]
      try simp only [List.setIfInBounds_toArray, List.set_cons_zero, List.set_cons_succ]
      refine reg_take 4 ?_ ?_ ?_ (by kernel_rfl) (by kernel_rfl) (by kernel_rfl) (fun _ _ _ h => h) ?_ ?_ (by assumption) ?_
      rotate_left 2
      · simp only [List.getElem?_toArray, List.getElem?_cons_succ, List.getElem?_cons_zero]; exact rfl
      · rfl
      · intro w hSw; (try dsimp only at hSw); go_simp; try with_reducible rfl
      try simp only [Act.put]
      try simp only [List.setIfInBounds_toArray, List.set_cons_zero, List.set_cons_succ]
      refine reg_take 5 ?_ ?_ ?_ (by kernel_rfl) (by kernel_rfl) (by kernel_rfl) (fun _ _ _ h => h) ?_ ?_ (by assumption) ?_
      rotate_left 2
      · simp only [List.getElem?_toArray, List.getElem?_cons_succ, List.getElem?_cons_zero]; exact rfl
      · rfl
      · intro w hSw; (try dsimp only at hSw); go_simp; try with_reducible rfl
      try simp only [Act.put]
      try simp only [List.setIfInBounds_toArray, List.set_cons_zero, List.set_cons_succ]
      refine reg_take 7 ?_ ?_ ?_ (by kernel_rfl) (by kernel_rfl) (by kernel_rfl) (fun _ _ _ h => h) ?_ ?_ (by assumption) ?_
      rotate_left 2
      · simp only [List.getElem?_toArray, List.getElem?_cons_succ, List.getElem?_cons_zero]; exact rfl
      · rfl
      · intro w hSw; (try dsimp only at hSw); go_simp; try with_reducible rfl
      try simp only [Act.put]
      try simp only [List.setIfInBounds_toArray, List.set_cons_zero, List.set_cons_succ]
      refine reg_take 8 ?_ ?_ ?_ (by kernel_rfl) (by kernel_rfl) (by kernel_rfl) (fun _ _ _ h => h) ?_ ?_ (by assumption) ?_
      rotate_left 2
      · simp only [List.getElem?_toArray, List.getElem?_cons_succ, List.getElem?_cons_zero]; exact rfl
      · rfl
      · intro w hSw; (try dsimp only at hSw); go_simp; try with_reducible rfl
      try simp only [Act.put]
      try simp only [List.setIfInBounds_toArray, List.set_cons_zero, List.set_cons_succ]
      refine reg_take 9 ?_ ?_ ?_ (by kernel_rfl) (by kernel_rfl) (by kernel_rfl) (fun _ _ _ h => h) ?_ ?_ (by assumption) ?_
      rotate_left 2
      · simp only [List.getElem?_toArray, List.getElem?_cons_succ, List.getElem?_cons_zero]; exact rfl
      · rfl
      · intro w hSw; (try dsimp only at hSw); go_simp; try with_reducible rfl
      try simp only [Act.put]
      try simp only [List.setIfInBounds_toArray, List.set_cons_zero, List.set_cons_succ]
      refine reg_take 10 ?_ ?_ ?_ (by kernel_rfl) (by kernel_rfl) (by kernel_rfl) (fun _ _ _ h => h) ?_ ?_ (by assumption) ?_
      rotate_left 2
      · simp only [List.getElem?_toArray, List.getElem?_cons_succ, List.getElem?_cons_zero]; exact rfl
      · rfl
      · intro w hSw; (try dsimp only at hSw); go_simp; try with_reducible rfl
      try simp only [Act.put]
      try simp only [List.setIfInBounds_toArray, List.set_cons_zero, List.set_cons_succ]
      refine reg_take 11 ?_ ?_ ?_ (by kernel_rfl) (by kernel_rfl) (by kernel_rfl) (fun _ _ _ h => h) ?_ ?_ (by assumption) ?_
      rotate_left 2
      · simp only [List.getElem?_toArray, List.getElem?_cons_succ, List.getElem?_cons_zero]; exact rfl
      · rfl
      · intro w hSw; (try dsimp only at hSw); go_simp; try with_reducible rfl
      try simp only [Act.put]
      try simp only [List.setIfInBounds_toArray, List.set_cons_zero, List.set_cons_succ]
      refine reg_take 12 ?_ ?_ ?_ (by kernel_rfl) (by kernel_rfl) (by kernel_rfl) (fun _ _ _ h => h) ?_ ?_ (by assumption) ?_
      rotate_left 2
      · simp only [List.getElem?_toArray, List.getElem?_cons_succ, List.getElem?_cons_zero]; exact rfl
      · rfl
      · intro w hSw; (try dsimp only at hSw); go_simp; try with_reducible rfl
      try simp only [Act.put]
      try simp only [List.setIfInBounds_toArray, List.set_cons_zero, List.set_cons_succ]
      refine reg_call 6 ?_ (by kernel_rfl) ?_ (fun K hK => ?_)
      rotate_left 1
      · simp only [List.getElem?_toArray, List.getElem?_cons_succ, List.getElem?_cons_zero]; exact rfl
      go_simp
      refine (mix_mag _ _ m n C A y0 x0 _ (by omega) (by omega) bx_5 ax_5 HY0.out HX0.out E1.out).mono ?_
      rintro e w5 ⟨v1, rfl, h1_0, hb5⟩
      have hB_6 := hB_5.trans (hb5.mono hB_5.size)
      have ax_6 := ax_5.below hb5
      have bx_6 := bx_5.below hb5
      have bq_6 := bq_5.below hb5
      have px_2 := px_1.below hb5
      have py_2 := py_1.below hb5
      clear hb5 hB_5 ax_5 bx_5 bq_5 px_1 py_1
      go_wp2_with fail
      refine hK.out _ _ ⟨px_2.c0, px_2.c1, py_2.c0, py_2.c1⟩ (fun hHeld => ?_)
      clear hK K
      try simp only [Act.put]
      try simp only [List.setIfInBounds_toArray, List.set_cons_zero, List.set_cons_succ]
      refine reg_call 13 ?_ (by kernel_rfl) ?_ (fun K hK => ?_)
      rotate_left 1
      · simp only [List.getElem?_toArray, List.getElem?_cons_succ, List.getElem?_cons_zero]; exact rfl
      go_simp
      refine (mix_mag _ _ n m A C x1 y1 _ (by omega) (by omega) ax_6 bx_6 HX1.out HY1.out E2.out).mono ?_
      rintro e w6 ⟨v2, rfl, h2_0, hb6⟩
      have hB_7 := hB_6.trans (hb6.mono hB_6.size)
      have ax_7 := ax_6.below hb6
      have bx_7 := bx_6.below hb6
      have bq_7 := bq_6.below hb6
      have px_3 := px_2.below hb6
      have py_3 := py_2.below hb6
      have h1_1 := h1_0.below hb6
      clear hb6 hB_6 ax_6 bx_6 bq_6 px_2 py_2 h1_0
      go_wp2_with fail
      refine hK.out _ _ ⟨px_3.c0, px_3.c1, py_3.c0, py_3.c1⟩ (fun hHeld => ?_)
      clear hK K
      try simp only [Act.put]
      try simp only [List.setIfInBounds_toArray, List.set_cons_zero, List.set_cons_succ]
      refine reg_take 14 ?_ ?_ ?_ (by kernel_rfl) (by kernel_rfl) (by kernel_rfl) (fun _ _ _ h => h) ?_ ?_ (by assumption) ?_
      rotate_left 2
      · simp only [List.getElem?_toArray, List.getElem?_cons_succ, List.getElem?_cons_zero]; exact rfl
      · rfl
      · intro w hSw; (try dsimp only at hSw); go_simp; try with_reducible rfl
      try simp only [Act.put]
      try simp only [List.setIfInBounds_toArray, List.set_cons_zero, List.set_cons_succ]
      refine reg_take 15 ?_ ?_ ?_ (by kernel_rfl) (by kernel_rfl) (by kernel_rfl) (fun _ _ _ h => h) ?_ ?_ (by assumption) ?_
      rotate_left 2
      · simp only [List.getElem?_toArray, List.getElem?_cons_succ, List.getElem?_cons_zero]; exact rfl
      · rfl
      · intro w hSw; (try dsimp only at hSw); go_simp; try with_reducible rfl
      try simp only [Act.put]
      try simp only [List.setIfInBounds_toArray, List.set_cons_zero, List.set_cons_succ]
      refine wpAnyH_done (by kernel_rfl) ?_ _
      refine NoPanic.normal ?_
      go_wp2
      go_ret2
      have hlt := ax_7.lt
      have hP := HPL.out
      have hQ := HQP.out
      exact ⟨_, _, P, Q, rfl, (E3.out ▸ h1_1).short (by omega), (E4.out ▸ h2_0).short (by omega), hQ, HG.out, HLS.out, hP, hB_7⟩
end Go.Proofs.YtbeohedkeklaiaaGreatDoor
