/- From the form of the rows to the walks of layer 4: the powers of ten in their table. -/
import Derived.Test.YtbeohedkeklaiaaGreatDoorParti
import Derived.Test.YtbeohedkeklaiaaGreatDoorDeciF
import Derived.LaidLaws
import Derived.Lay
import Derived.Lib.LaidTab
import Derived.Stop.LaidErr
import Derived.ChangeMaps5
import Derived.Test.YtbeohedkeklaiaaGreatDoorDeciK
namespace Go.Proofs.YtbeohedkeklaiaaGreatDoor
open Go.ChangeShapes Go.WideShapes Go.RowKit Go.MagM
theorem tensName : Tryz.prog.globalNamed "internal/strconv.uint64pow10" = some 3 := by kernel_rfl
theorem tensType : (Tryz.prog.globals[3]?).map (·.type) = some 177 := by kernel_rfl
theorem tensUnder : Tryz.prog.underlying 177 = some (.array 20 49) := by kernel_rfl
theorem tensElem : Tryz.prog.underlying 49 = some (.int .u64) := by kernel_rfl
theorem tensCells1 : Tryz.prog.cellsOf 49 = 1 := by kernel_rfl
theorem tensCells : Tryz.prog.cellsOf 177 = 20 := by kernel_rfl
theorem tensData : (Rows.laid_internal_strconv_uint64pow10 : DataW Unit) = Lib.tabData .u64 Lib.pow10Tab := by kernel_rfl
/-- What the condition on the tables gives a walk. -/
theorem tens_of_laid {W : World} (h : laidMet Tryz.prog [("math/bits.deBruijn32tab", Rows.laid_math_bits_deBruijn32tab), ("math/bits.deBruijn64tab", Rows.laid_math_bits_deBruijn64tab), ("internal/strconv.uint64pow10", Rows.laid_internal_strconv_uint64pow10), ("unicode/utf8.acceptRanges", Rows.laid_unicode_utf8_acceptRanges), ("unicode/utf8.first", Rows.laid_unicode_utf8_first)] W) : Tens W := by
  have h2 := h.tail.tail
  rw [tensData] at h2
  exact ⟨Lib.tabIs_of_head tensName tensType tensUnder tensElem tensCells1 tensCells h2⟩
end Go.Proofs.YtbeohedkeklaiaaGreatDoor
/- How a text is read byte by byte: the mathematics. Of no program. -/
namespace Go.MagS
open Go
def capM (n : Nat) : Nat := min n 1099511627776
theorem capM_step (n d : Nat) : capM (10 * capM n + d) = capM (10 * n + d) := by unfold capM; omega
theorem capM_le (n : Nat) : capM n ≤ 1099511627776 := by unfold capM; omega
def cstep (n : Nat) (c : UInt8) : Nat := capM (10 * n + (c.toNat - 48))
/-- Digits that are read, held down. -/
def cval (n : Nat) (l : List UInt8) : Nat := l.foldl cstep n
theorem cval_nil (n : Nat) : cval n [] = n := rfl
theorem cval_cons (n : Nat) (c : UInt8) (l : List UInt8) : cval n (c :: l) = cval (capM (10 * n + (c.toNat - 48))) l := by unfold cval; rw [List.foldl_cons]; rfl
theorem cval_eq (l : List UInt8) : ∀ n, cval (capM n) l = capM (dval n l) := by
  induction l with
  | nil => intro n; rfl
  | cons c l ih => intro n; rw [cval_cons, capM_step, ih, dval_cons]
/-- The loop: the bytes that are left; the number, the places behind the point (-1: no point yet), the digits ahead of it, is one lost. -/
def ugo (k : Nat) : List UInt8 → Nat → Int → Nat → Bool → Option (Nat × Int × Nat × Bool)
  | [], n, pl, wh, lost => some (n, pl, wh, lost)
  | c :: l, n, pl, wh, lost =>
    if c = 46 ∧ pl < 0 ∧ 0 < wh then ugo k l n 0 wh lost
    else if isDig c = false then none
    else if pl < 0 then ugo k l (capM (10 * n + (c.toNat - 48))) pl (wh + 1) lost
    else if pl < (k : Int) then ugo k l (capM (10 * n + (c.toNat - 48))) (pl + 1) wh lost
    else ugo k l n (pl + 1) wh (lost || c != 48)
/-- What comes of it. -/
def ures (k : Nat) (m : Bool) : Option (Nat × Int × Nat × Bool) → Int × Int
  | none => (0, 1)
  | some (n, pl, wh, lost) =>
    if wh = 0 ∨ pl = 0 then (0, 1)
    else if lost then (0, 3)
    else if 2147483648 < capM (n * 10 ^ (k - pl.toNat)) then (0, 4)
    else (if m then -(capM (n * 10 ^ (k - pl.toNat)) : Int) else (capM (n * 10 ^ (k - pl.toNat)) : Int), 0)
theorem ugo_front (k : Nat) (rest : List UInt8) : ∀ (a : List UInt8) (n wh : Nat), (∀ c ∈ a, c ≠ 46) →
    ugo k (a ++ rest) n (-1) wh false = if a.all isDig then ugo k rest (cval n a) (-1) (wh + a.length) false else none
  | [], n, wh, _ => by simp [cval_nil]
  | c :: a, n, wh, h => by
    have hc : c ≠ 46 := h c (by simp)
    rw [List.cons_append, ugo, if_neg (fun e => hc e.1)]
    by_cases hd : isDig c = true
    · rw [if_neg (by rw [hd]; decide), if_pos (by decide), ugo_front k rest a _ _ (fun x hx => h x (by simp [hx])), List.all_cons, hd, Bool.true_and, cval_cons, List.length_cons, show wh + 1 + a.length = wh + (a.length + 1) by omega]
    · have hd2 : isDig c = false := by simpa using hd
      rw [if_pos hd2, List.all_cons, hd2, Bool.false_and, if_neg (by decide)]
theorem ugo_back (k wh : Nat) : ∀ (b : List UInt8) (n j : Nat) (lost : Bool),
    ugo k b n (j : Int) wh lost = if b.all isDig then some (cval n (b.take (k - j)), ((j + b.length : Nat) : Int), wh, lost || !allZ (b.drop (k - j))) else none
  | [], n, j, lost => by simp [ugo, cval_nil, allZ]
  | c :: b, n, j, lost => by
    rw [ugo, if_neg (by omega)]
    by_cases hd : isDig c = true
    · rw [if_neg (by rw [hd]; decide), if_neg (by omega), List.all_cons, hd, Bool.true_and]
      have e : (j : Int) + 1 = ((j + 1 : Nat) : Int) := by omega
      have e2 : j + 1 + b.length = j + (c :: b).length := by simp; omega
      by_cases hj : j < k
      · rw [if_pos (by omega), e, ugo_back k wh b _ (j + 1) lost, e2, show k - j = (k - (j + 1)) + 1 by omega, List.take_succ_cons, List.drop_succ_cons, cval_cons]
      · rw [if_neg (by omega), e, ugo_back k wh b _ (j + 1) _, e2, show k - j = 0 by omega, show k - (j + 1) = 0 by omega]
        simp only [List.take_zero, List.drop_zero, cval_nil]
        congr 5
        unfold allZ
        rw [List.all_cons]
        cases h : (c == 48) with
        | true => have : (c != 48) = false := by simp [bne, h]
                  rw [this]; simp
        | false => have : (c != 48) = true := by simp [bne, h]
                   rw [this]; simp
    · have hd2 : isDig c = false := by simpa using hd
      rw [if_pos hd2, List.all_cons, hd2, Bool.false_and, if_neg (by decide)]
theorem cutC_no {l : List UInt8} : ∀ c ∈ (cutC 46 l).1, c ≠ 46 := by
  induction l with
  | nil => intro c hc; simp [cutC] at hc
  | cons x l ih =>
    intro c hc
    by_cases h : x = 46
    · simp [cutC, h] at hc
    · simp only [cutC, if_neg h, List.mem_cons] at hc
      rcases hc with rfl | hc
      · exact h
      · exact ih c hc
theorem cutC_join (l : List UInt8) : l = (cutC 46 l).1 ++ (if (cutC 46 l).2.2 then 46 :: (cutC 46 l).2.1 else []) := by
  induction l with
  | nil => rfl
  | cons x l ih =>
    by_cases h : x = 46
    · subst h; simp [cutC]
    · simp only [cutC, if_neg h, List.cons_append]; rw [← ih]
theorem cutC_none {l : List UInt8} (h : (cutC 46 l).2.2 = false) : (cutC 46 l).2.1 = [] := by
  rcases index_one 46 l with ⟨i, _, _, h3⟩ | ⟨_, h3⟩
  · rw [h3] at h; cases h
  · rw [h3]
theorem capM_far (n : Nat) : 2147483648 < capM n ↔ 2147483648 < n := by unfold capM; omega
theorem capM_near {n : Nat} (h : ¬ 2147483648 < n) : capM n = n := by unfold capM; omega
theorem capM_mul (n r : Nat) : capM (capM n * 10 ^ r) = capM (n * 10 ^ r) := by
  unfold capM
  have hp : 0 < 10 ^ r := Nat.pow_pos (by omega)
  rcases Nat.le_total n 1099511627776 with h | h
  · rw [Nat.min_eq_left h]
  · rw [Nat.min_eq_right h]
    have h1 := Nat.mul_le_mul_right (10 ^ r) h
    have h2 : 1099511627776 ≤ 1099511627776 * 10 ^ r := Nat.le_mul_of_pos_right _ hp
    omega
/-- Read byte by byte a text is what Parse reads it as. -/
theorem parse_units (l : List UInt8) (k : Nat) (h : ¬ 400 < l.length) : ures k (cutS l).1 (ugo k (cutS l).2 0 (-1) 0 false) = parseL l k := by
  unfold parseL
  rw [if_neg h]
  obtain ⟨r, hr⟩ : ∃ r, (cutS l).2 = r := ⟨_, rfl⟩
  obtain ⟨m, hm⟩ : ∃ m, (cutS l).1 = m := ⟨_, rfl⟩
  rw [hr, hm]
  have hj := cutC_join r
  have hno := cutC_no (l := r)
  have hnone := cutC_none (l := r)
  obtain ⟨⟨a, b, p⟩, hc⟩ : ∃ x, cutC 46 r = x := ⟨_, rfl⟩
  simp only [hc] at hj hno hnone ⊢
  have hc0 : cval 0 a = capM (dval 0 a) := cval_eq a 0
  rw [hj, ugo_front k _ a 0 0 hno, Nat.zero_add, hc0]
  have hne : ∀ x : List UInt8, x.isEmpty = true ↔ x.length = 0 := by intro x; cases x <;> simp
  by_cases ha : a.all isDig = true
  · rw [if_pos ha]
    cases p with
    | false =>
      obtain rfl := hnone rfl
      simp only [Bool.false_eq_true, if_false, ugo, ures, Bool.false_and, Bool.or_false]
      by_cases h0 : a.length = 0
      · have : allDig a = false := by unfold allDig; rw [(hne a).2 h0]; simp
        rw [this, if_pos (.inl h0), if_pos (by rfl)]
      · have : allDig a = true := by
          unfold allDig; rw [ha]
          cases hx : a.isEmpty with
          | true => exact absurd ((hne a).1 hx) h0
          | false => rfl
        have hfit : fitK [] k = (List.replicate k 48, true) := by simp [fitK, allZ]
        have hv : dval 0 (a ++ List.replicate k 48) = dval 0 a * 10 ^ k := by rw [dval_append, dval_zeros]
        by_cases hf : 2147483648 < dval 0 a * 10 ^ k
        · simp [h0, this, hfit, hv, capM_mul, capM_far, hf]
        · simp [h0, this, hfit, hv, capM_mul, hf, capM_near hf]
    | true =>
      simp only [if_true]
      by_cases h0 : a.length = 0
      · have h1 : a = [] := List.length_eq_zero_iff.1 h0
        subst h1
        rw [ugo, if_neg (by simp), if_pos (by decide)]
        rfl
      · have haD : allDig a = true := by
          unfold allDig; rw [ha]
          cases hx : a.isEmpty with
          | true => exact absurd ((hne a).1 hx) h0
          | false => rfl
        rw [ugo, if_pos ⟨rfl, by decide, by omega⟩]
        have hb := ugo_back k a.length b (capM (dval 0 a)) 0 false
        rw [show ((0 : Nat) : Int) = 0 from rfl, Nat.sub_zero] at hb
        rw [hb, haD, cval_eq]
        by_cases hbd : b.all isDig = true
        · rw [if_pos hbd]
          simp only [ures, Nat.zero_add, Bool.false_or, Bool.not_true, Bool.true_and]
          by_cases hb0 : b.length = 0
          · have : allDig b = false := by unfold allDig; rw [(hne b).2 hb0]; simp
            rw [this, if_pos (.inr (by omega)), if_pos (by rfl)]
          · have hbD : allDig b = true := by
              unfold allDig; rw [hbd]
              cases hx : b.isEmpty with
              | true => exact absurd ((hne b).1 hx) hb0
              | false => rfl
            by_cases hz : allZ (b.drop k) = true
            · have hfit : fitK b k = (b.take k ++ List.replicate (k - b.length) 48, true) := by unfold fitK; rw [if_pos hz]
              have hv : dval 0 (a ++ (b.take k ++ List.replicate (k - b.length) 48)) = dval (dval 0 a) (b.take k) * 10 ^ (k - b.length) := by rw [dval_append, dval_append, dval_zeros]
              by_cases hf : 2147483648 < dval (dval 0 a) (b.take k) * 10 ^ (k - b.length)
              · simp [h0, hb0, hbD, hz, hfit, hv, capM_mul, capM_far, hf]
              · simp [h0, hb0, hbD, hz, hfit, hv, capM_mul, hf, capM_near hf]
            · have hz2 : allZ (b.drop k) = false := by simpa using hz
              have hfit : fitK b k = ([], false) := by unfold fitK; rw [if_neg hz]
              simp [h0, hb0, hbD, hz2, hfit]
        · have : allDig b = false := by unfold allDig; rw [show b.all isDig = false by simpa using hbd]; rfl
          rw [if_neg hbd, this]; rfl
  · have : allDig a = false := by unfold allDig; rw [show a.all isDig = false by simpa using ha]; rfl
    rw [if_neg ha, this]; rfl
end Go.MagS
