/- Texts: lists of bytes; decimal digits, what they count, and how a number is told. Of no program. -/
import Derived.Lib.ItoaNum
import Derived.Lib.IndexMore
import Derived.Lib.TrimByte
import Derived.Lib.Repeat
import Derived.Lib.RepeatB
import Derived.Lib.Strings
import Derived.Lib.Hide
namespace Go.MagS
open Go
/-- The text of a list of bytes. -/
def str (l : List UInt8) : ByteArray := ⟨l.toArray⟩
theorem str_data (l : List UInt8) : (str l).data.toList = l := rfl
theorem str_of (s : ByteArray) : s = str s.data.toList := (Lib.mk_data s).symm
theorem str_size (l : List UInt8) : (str l).size = l.length := Lib.size_mk l
theorem str_list (l : List UInt8) : (str l).toList = l := by rw [Lib.toList_data]; rfl
theorem str_extract (l : List UInt8) (a b : Nat) : (str l).extract a b = str ((l.drop a).take (b - a)) := Lib.extract_mk l a b
theorem str_append (a b : List UInt8) : str a ++ str b = str (a ++ b) := by
  unfold str; apply ByteArray.ext; simp
theorem str_at (l : List UInt8) (k : Nat) (h : k < (str l).size) : (str l)[k] = l[k]'(by rw [str_size] at h; exact h) := rfl
theorem str_nil : str [] = ⟨#[]⟩ := rfl
/-- A decimal digit. -/
def isDig (c : UInt8) : Bool := decide (48 ≤ c.toNat) && decide (c.toNat ≤ 57)
theorem isDig_iff (c : UInt8) : isDig c = true ↔ 48 ≤ c.toNat ∧ c.toNat ≤ 57 := by simp [isDig]
/-- One digit or more, and nothing else. -/
def allDig (l : List UInt8) : Bool := l.all isDig && !l.isEmpty
/-- What digits count, upon what those ahead count. -/
def dval (n : Nat) (l : List UInt8) : Nat := l.foldl (fun n c => 10 * n + (c.toNat - 48)) n
theorem dval_nil (n : Nat) : dval n [] = n := rfl
theorem dval_cons (n : Nat) (c : UInt8) (l : List UInt8) : dval n (c :: l) = dval (10 * n + (c.toNat - 48)) l := by unfold dval; rw [List.foldl_cons]
theorem dval_append (n : Nat) (a b : List UInt8) : dval n (a ++ b) = dval (dval n a) b := by
  induction a generalizing n with
  | nil => rfl
  | cons c a ih => exact ih _
theorem dval_zeros (n k : Nat) : dval n (List.replicate k 48) = n * 10 ^ k := by
  induction k generalizing n with
  | zero => simp [dval_nil]
  | succ k ih =>
    rw [List.replicate_succ, dval_cons, ih, Nat.pow_succ]
    have : (48 : UInt8).toNat - 48 = 0 := rfl
    rw [this, Nat.add_zero, Nat.mul_comm 10 n, Nat.mul_assoc, Nat.mul_comm 10]
theorem dval_split (n : Nat) (l : List UInt8) : dval n l = n * 10 ^ l.length + dval 0 l := by
  induction l generalizing n with
  | nil => simp [dval_nil]
  | cons c l ih =>
    rw [dval_cons, ih, dval_cons, ih (10 * 0 + _), List.length_cons, Nat.pow_succ, Nat.add_mul, Nat.mul_comm 10 n, Nat.mul_assoc, Nat.mul_comm 10 (10 ^ _), Nat.mul_zero, Nat.zero_add]
    omega
theorem dval_lt (l : List UInt8) (h : l.all isDig = true) : dval 0 l < 10 ^ l.length := by
  induction l with
  | nil => simp [dval_nil]
  | cons c l ih =>
    rw [List.all_cons, Bool.and_eq_true, isDig_iff] at h
    rw [dval_cons, dval_split, List.length_cons, Nat.pow_succ]
    have h1 := ih h.2
    have h2 : (10 * 0 + (c.toNat - 48)) * 10 ^ l.length ≤ 9 * 10 ^ l.length := Nat.mul_le_mul_right _ (by omega)
    omega
theorem byte_of {n : Nat} (h : n < 256) : (UInt8.ofNat n).toNat = n := by simp [Nat.mod_eq_of_lt h]
theorem byte_ext {a b : UInt8} (h : a.toNat = b.toNat) : a = b := UInt8.toNat_inj.1 h
open Go.Lib (decDigits)
theorem dec_small {n : Nat} (h : n < 10) : decDigits n = [UInt8.ofNat (48 + n)] := by rw [decDigits, dif_pos h]
theorem dec_big {n : Nat} (h : ¬ n < 10) : decDigits n = decDigits (n / 10) ++ [UInt8.ofNat (48 + n % 10)] := by rw [decDigits, dif_neg h]
theorem dec_dig (n : Nat) : (decDigits n).all isDig = true := by
  induction n using Nat.strongRecOn with
  | _ n ih =>
    by_cases h : n < 10
    · rw [dec_small h]; simp [isDig]; omega
    · rw [dec_big h, List.all_append, ih _ (by omega)]
      simp [isDig]; omega
theorem dec_ne (n : Nat) : decDigits n ≠ [] := by
  by_cases h : n < 10
  · rw [dec_small h]; simp
  · rw [dec_big h]; simp
theorem dec_all (n : Nat) : allDig (decDigits n) = true := by
  unfold allDig; rw [dec_dig]; cases h : decDigits n with
  | nil => exact absurd h (dec_ne n)
  | cons => rfl
theorem dec_val (n : Nat) : dval 0 (decDigits n) = n := by
  induction n using Nat.strongRecOn with
  | _ n ih =>
    by_cases h : n < 10
    · rw [dec_small h]; simp [dval_cons, dval_nil]; omega
    · rw [dec_big h, dval_append, ih _ (by omega)]
      simp [dval_cons, dval_nil]; omega
theorem dec_len {n k : Nat} (h : n < 10 ^ k) (hk : 0 < k) : (decDigits n).length ≤ k := by
  induction k generalizing n with
  | zero => omega
  | succ k ih =>
    by_cases h1 : n < 10
    · rw [dec_small h1]; simp
    · rw [dec_big h1, List.length_append, List.length_singleton]
      cases k with
      | zero => simp at h; omega
      | succ k => have := ih (n := n / 10) (by rw [Nat.pow_succ] at h; omega) (by omega); omega
theorem dec_pos (n : Nat) : 0 < (decDigits n).length := List.length_pos_iff.2 (dec_ne n)
/-- A number that isn't 0 begins with another digit. -/
theorem dec_head {n : Nat} (h : n ≠ 0) : ∃ c l, decDigits n = c :: l ∧ c ≠ 48 := by
  induction n using Nat.strongRecOn with
  | _ n ih =>
    by_cases h1 : n < 10
    · refine ⟨_, _, dec_small h1, fun e => ?_⟩
      have := congrArg UInt8.toNat e
      rw [byte_of (by omega)] at this
      have h48 : (48 : UInt8).toNat = 48 := rfl
      omega
    · obtain ⟨c, l, e, hc⟩ := ih (n / 10) (by omega) (by omega)
      exact ⟨c, l ++ [UInt8.ofNat (48 + n % 10)], by rw [dec_big h1, e]; rfl, hc⟩
theorem dec_zero : decDigits 0 = [48] := by rw [dec_small (by decide)]; rfl
/-- Digits without a needless 0 ahead are those of their number. -/
theorem dec_of {l : List UInt8} (hd : l.all isDig = true) (h0 : ∃ c r, l = c :: r ∧ (c ≠ 48 ∨ r = [])) : decDigits (dval 0 l) = l := by
  have step : ∀ (r : List UInt8) (n : Nat), r.all isDig = true → 0 < n → decDigits (dval n r) = decDigits n ++ r := by
    intro r
    induction r with
    | nil => intro n _ _; simp [dval_nil]
    | cons c r ih =>
      intro n hr hn
      rw [List.all_cons, Bool.and_eq_true, isDig_iff] at hr
      rw [dval_cons, ih _ hr.2 (by omega), dec_big (n := 10 * n + (c.toNat - 48)) (by omega), show (10 * n + (c.toNat - 48)) / 10 = n by omega,
        show UInt8.ofNat (48 + (10 * n + (c.toNat - 48)) % 10) = c from byte_ext (by rw [byte_of (by omega)]; omega)]
      simp
  obtain ⟨c, r, rfl, h⟩ := h0
  rw [List.all_cons, Bool.and_eq_true, isDig_iff] at hd
  have hc : decDigits (c.toNat - 48) = [c] := by
    rw [dec_small (by omega)]
    congr 1
    exact byte_ext (by rw [byte_of (by omega)]; omega)
  rw [dval_cons]
  simp only [Nat.mul_zero, Nat.zero_add]
  rcases h with h | rfl
  · have hpos : 0 < c.toNat - 48 := by
      rcases Nat.eq_zero_or_pos (c.toNat - 48) with e | e
      · exact absurd (byte_ext (show c.toNat = (48 : UInt8).toNat by have : (48 : UInt8).toNat = 48 := rfl; omega)) h
      · exact e
    rw [step _ _ hd.2 hpos, hc]; rfl
  · rw [dval_nil, hc]
theorem dec_inj {a b : Nat} (h : decDigits a = decDigits b) : a = b := by rw [← dec_val a, h, dec_val]
/-- 0s ahead, till there are k digits. -/
def padK (k : Nat) (l : List UInt8) : List UInt8 := List.replicate (k - l.length) 48 ++ l
theorem padK_len (k : Nat) (l : List UInt8) : (padK k l).length = max k l.length := by simp [padK]; omega
theorem zeros_dig (k : Nat) : (List.replicate k (48 : UInt8)).all isDig = true := by
  rw [List.all_eq_true]; intro x hx; rw [List.eq_of_mem_replicate hx]; rfl
theorem padK_dig {k : Nat} {l : List UInt8} (h : l.all isDig = true) : (padK k l).all isDig = true := by
  unfold padK; rw [List.all_append, h, zeros_dig]; rfl
theorem padK_val (k : Nat) (l : List UInt8) : dval 0 (padK k l) = dval 0 l := by unfold padK; rw [dval_append, dval_zeros]; simp
/-- The sign ahead of a number. -/
def sgnL (m : Bool) : List UInt8 := if m then [45] else []
/-- A whole number's text. -/
def wtext (x : Int) : List UInt8 := sgnL (decide (x < 0)) ++ decDigits x.natAbs
/-- So many units of a scale: where the point stands. -/
def pointed (k : Nat) (l : List UInt8) : List UInt8 := if k = 0 then l else l.take (l.length - k) ++ 46 :: l.drop (l.length - k)
/-- The text of so many units of a scale. -/
def ftext (x : Int) (k : Nat) : List UInt8 := sgnL (decide (x < 0)) ++ pointed k (padK (k + 1) (decDigits x.natAbs))
/-- The sign, if there is one, and what is left. -/
def cutS : List UInt8 → Bool × List UInt8
  | [] => (false, [])
  | c :: l => if c = 45 then (true, l) else if c = 43 then (false, l) else (false, c :: l)
/-- A minus, if there is one, and what is left. -/
def cutM : List UInt8 → Bool × List UInt8
  | [] => (false, [])
  | c :: l => if c = 45 then (true, l) else (false, c :: l)
/-- Cut at the first byte c. -/
def cutC (c : UInt8) : List UInt8 → List UInt8 × List UInt8 × Bool
  | [] => ([], [], false)
  | b :: l => if b = c then ([], l, true) else (b :: (cutC c l).1, (cutC c l).2.1, (cutC c l).2.2)
theorem index_one (c : UInt8) : ∀ l : List UInt8, (∃ i, Lib.indexByte l c = (i : Nat) ∧ i < l.length ∧ cutC c l = (l.take i, l.drop (i + 1), true)) ∨ (Lib.indexByte l c = -1 ∧ cutC c l = (l, [], false))
  | [] => .inr ⟨rfl, rfl⟩
  | b :: l => by
    by_cases h : b = c
    · exact .inl ⟨0, by simp [Lib.indexByte, h], by simp, by simp [cutC, h]⟩
    · have hb : (b == c) = false := by simpa using h
      rcases index_one c l with ⟨i, h1, h2, h3⟩ | ⟨h1, h2⟩
      · have hne : ¬ ((i : Int) = -1) := by omega
        refine .inl ⟨i + 1, by simp [Lib.indexByte, hb, h1, hne], by simp; omega, by simp [cutC, h, h3]⟩
      · exact .inr ⟨by simp [Lib.indexByte, hb, h1], by simp [cutC, h, h2]⟩
theorem cutC_len (c : UInt8) (l : List UInt8) : (cutC c l).1.length ≤ l.length ∧ (cutC c l).2.1.length ≤ l.length := by
  induction l with
  | nil => simp [cutC]
  | cons b l ih => unfold cutC; split <;> simp <;> omega
theorem cutS_len (l : List UInt8) : (cutS l).2.length ≤ l.length := by
  cases l with
  | nil => simp [cutS]
  | cons c l => simp only [cutS]; split <;> (try split) <;> simp
theorem cutM_len (l : List UInt8) : (cutM l).2.length ≤ l.length := by
  cases l with
  | nil => simp [cutM]
  | cons c l => simp only [cutM]; split <;> simp
theorem repeat_zero (n : Nat) : Lib.repeatL [48] n = List.replicate n (48 : UInt8) := by
  have := Lib.repeatL_replicate (48 : UInt8) 1 n
  simpa using this
/-- All 0s. -/
def allZ (l : List UInt8) : Bool := l.all (· == 48)
theorem dropWhile_nil {p : UInt8 → Bool} : ∀ {l : List UInt8}, l.dropWhile p = [] ↔ l.all p = true
  | [] => by simp
  | c :: l => by
    rw [List.dropWhile_cons, List.all_cons]
    by_cases h : p c = true
    · simp [h, dropWhile_nil (l := l)]
    · simp [h]
theorem trim_nil (l : List UInt8) : (Lib.trimB l 48 = []) ↔ allZ l = true := by
  unfold Lib.trimB Lib.trimLeftB allZ
  rw [dropWhile_nil]
  unfold Lib.trimRightB
  rw [List.all_reverse]
  constructor
  · intro h
    have h2 := List.takeWhile_append_dropWhile (p := (· == (48 : UInt8))) (l := l.reverse)
    rw [← List.all_reverse, ← h2, List.all_append, h, Bool.and_true]
    rw [List.all_eq_true]; intro x hx
    exact List.all_eq_true.1 (List.all_takeWhile) x hx
  · intro h
    rw [List.all_eq_true]; intro x hx
    have hx2 := (List.dropWhile_suffix (· == (48 : UInt8))).subset hx
    exact List.all_eq_true.1 h x (List.mem_reverse.1 hx2)
/-- The digits behind a point, as many as the scale has; none, if one of those that are too many isn't 0. -/
def fitK (b : List UInt8) (k : Nat) : List UInt8 × Bool := if allZ (b.drop k) then (b.take k ++ List.replicate (k - b.length) 48, true) else ([], false)
/-- What Parse answers: the units, and the error. -/
def parseL (l : List UInt8) (k : Nat) : Int × Int :=
  if 400 < l.length then (0, 2)
  else
    let m := (cutS l).1
    let r := cutC 46 (cutS l).2
    if !allDig r.1 || (r.2.2 && !allDig r.2.1) then (0, 1)
    else if !(fitK r.2.1 k).2 then (0, 3)
    else if 2147483648 < dval 0 (r.1 ++ (fitK r.2.1 k).1) then (0, 4)
    else (if m then -(dval 0 (r.1 ++ (fitK r.2.1 k).1) : Int) else (dval 0 (r.1 ++ (fitK r.2.1 k).1) : Int), 0)
end Go.MagS
