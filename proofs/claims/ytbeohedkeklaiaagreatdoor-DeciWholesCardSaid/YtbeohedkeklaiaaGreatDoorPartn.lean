/- From the form of the rows to the walks of layer 4: the powers of ten in their table. -/
import Derived.Test.YtbeohedkeklaiaaGreatDoorParti
import Derived.Test.YtbeohedkeklaiaaGreatDoorDeciF
import Derived.LaidLaws
import Derived.Lay
import Derived.Lib.LaidTab
import Derived.Stop.LaidErr
import Derived.ChangeMaps5
import Derived.Test.YtbeohedkeklaiaaGreatDoorPartk
import Derived.Test.YtbeohedkeklaiaaGreatDoorPartd
import Derived.Laws.Bits64b
import Derived.Test.YtbeohedkeklaiaaGreatDoorDeciK
namespace Go.Proofs.YtbeohedkeklaiaaGreatDoor
open Go.ChangeShapes Go.WideShapes Go.RowKit Go.MagM
theorem tensName : Tryz.prog.globalNamed "internal/strconv.uint64pow10" = some 3 := by kernel_rfl
theorem tensType : (Tryz.prog.globals[3]?).map (·.type) = some 177 := by kernel_rfl
theorem tensUnder : Tryz.prog.underlying 177 = some (.array 20 49) := by kernel_rfl
theorem tensElem : Tryz.prog.underlying 49 = some (.int .u64) := by kernel_rfl
theorem tensCells1 : Tryz.prog.cellsOf 49 = 1 := by kernel_rfl
theorem tensCells : Tryz.prog.cellsOf 177 = 20 := by kernel_rfl
theorem tensData : (Rows.laid_internal_strconv_uint64pow10 : DataW Unit) = Lib.tabData .u64 Lib.pow10Tab := by kernel_rfl
/-- What the condition on the tables gives a walk. -/
theorem tens_of_laid {W : World} (h : laidMet Tryz.prog [("math/bits.deBruijn32tab", Rows.laid_math_bits_deBruijn32tab), ("math/bits.deBruijn64tab", Rows.laid_math_bits_deBruijn64tab), ("internal/strconv.uint64pow10", Rows.laid_internal_strconv_uint64pow10), ("unicode/utf8.acceptRanges", Rows.laid_unicode_utf8_acceptRanges), ("unicode/utf8.first", Rows.laid_unicode_utf8_first)] W) : Tens W := by
  have h2 := h.tail.tail
  rw [tensData] at h2
  exact ⟨Lib.tabIs_of_head tensName tensType tensUnder tensElem tensCells1 tensCells h2⟩
end Go.Proofs.YtbeohedkeklaiaaGreatDoor
/- Plain mathematics of decimal digits, the lowest first. No program. -/
namespace Go.MagT
/-- Ten. -/
def B : Nat := 10
theorem B_pos : 0 < B := by unfold B; omega
theorem B_gt1 : 1 < B := by unfold B; omega
theorem B_eq : B = 10 := rfl
theorem Bp (n : Nat) : 0 < B ^ n := Nat.pow_pos B_pos
/-- What the first k words count. -/
def V (f : Nat → Nat) : Nat → Nat
  | 0 => 0
  | k + 1 => V f k + f k * B ^ k
theorem V_zero (f : Nat → Nat) : V f 0 = 0 := rfl
theorem V_succ (f : Nat → Nat) (k : Nat) : V f (k + 1) = V f k + f k * B ^ k := rfl
theorem V_congr {f g : Nat → Nat} : ∀ {n : Nat}, (∀ i, i < n → f i = g i) → V f n = V g n
  | 0, _ => rfl
  | n + 1, h => by rw [V_succ, V_succ, V_congr (fun i hi => h i (by omega)), h n (by omega)]
theorem V_lt {f : Nat → Nat} : ∀ {n : Nat}, (∀ i, i < n → f i < B) → V f n < B ^ n
  | 0, _ => by simp [V]
  | n + 1, h => by
    have h1 := V_lt (n := n) (fun i hi => h i (by omega))
    have h2 : f n + 1 ≤ B := h n (by omega)
    have h3 := Nat.mul_le_mul_right (B ^ n) h2
    rw [V_succ, Nat.pow_succ, Nat.mul_comm (B ^ n) B]
    rw [Nat.add_mul] at h3
    omega
theorem V_split (f : Nat → Nat) (a : Nat) : ∀ b : Nat, V f (a + b) = V f a + B ^ a * V (fun i => f (a + i)) b
  | 0 => by simp [V]
  | b + 1 => by
    rw [← Nat.add_assoc, V_succ, V_split f a b, V_succ, Nat.pow_add, Nat.mul_add]
    have : f (a + b) * (B ^ a * B ^ b) = B ^ a * (f (a + b) * B ^ b) := by rw [Nat.mul_left_comm]
    omega
/-- Words that agree from k on: what differs lies below. -/
theorem V_above {f g : Nat → Nat} {k n : Nat} (hk : k ≤ n) (h : ∀ i, k ≤ i → i < n → f i = g i) : V f n + V g k = V g n + V f k := by
  obtain ⟨d, rfl⟩ : ∃ d, n = k + d := ⟨n - k, by omega⟩
  rw [V_split f k d, V_split g k d, V_congr (f := fun i => f (k + i)) (g := fun i => g (k + i)) (fun i hi => h (k + i) (by omega) (by omega))]
  omega
theorem V_le {f : Nat → Nat} {k n : Nat} (h : k ≤ n) : V f k ≤ V f n := by
  obtain ⟨d, rfl⟩ : ∃ d, n = k + d := ⟨n - k, by omega⟩
  rw [V_split]; omega
theorem V_one (f : Nat → Nat) : V f 1 = f 0 := by simp [V]
theorem V_none {f : Nat → Nat} : ∀ {n : Nat}, (∀ i, i < n → f i = 0) → V f n = 0
  | 0, _ => rfl
  | n + 1, h => by rw [V_succ, V_none (fun i hi => h i (by omega)), h n (by omega)]; simp
theorem V_pos {f : Nat → Nat} {n k : Nat} (hk : k < n) (h : 0 < f k) : 0 < V f n := by
  have h1 := V_le (f := f) (show k + 1 ≤ n by omega)
  have h2 := Nat.mul_pos h (Bp k)
  rw [V_succ] at h1; omega
/-- The word k turned. -/
def upd (f : Nat → Nat) (k x : Nat) : Nat → Nat := fun i => if i = k then x else f i
theorem upd_same (f : Nat → Nat) (k x : Nat) : upd f k x k = x := by simp [upd]
theorem upd_other (f : Nat → Nat) (k x : Nat) {i : Nat} (h : i ≠ k) : upd f k x i = f i := by simp [upd, h]
theorem V_upd_below (f : Nat → Nat) (k x : Nat) {n : Nat} (h : n ≤ k) : V (upd f k x) n = V f n := V_congr (fun i hi => upd_other f k x (by omega))
theorem V_upd_succ (f : Nat → Nat) (k x : Nat) : V (upd f k x) (k + 1) = V f k + x * B ^ k := by rw [V_succ, V_upd_below f k x (Nat.le_refl k), upd_same]
/-- How many words are left, when the 0s at the end are struck. -/
def tlen (f : Nat → Nat) : Nat → Nat
  | 0 => 0
  | k + 1 => if f k = 0 then tlen f k else k + 1
theorem tlen_le (f : Nat → Nat) : ∀ k, tlen f k ≤ k
  | 0 => Nat.le_refl _
  | k + 1 => by have := tlen_le f k; unfold tlen; split <;> omega
theorem tlen_V (f : Nat → Nat) : ∀ k, V f (tlen f k) = V f k
  | 0 => rfl
  | k + 1 => by
    unfold tlen; split
    · rename_i h; rw [tlen_V f k, V_succ, h]; simp
    · rfl
/-- Without a 0 at the end. -/
def Right (f : Nat → Nat) (n : Nat) : Prop := ∀ k, n = k + 1 → f k ≠ 0
theorem tlen_right (f : Nat → Nat) : ∀ k, Right f (tlen f k)
  | 0 => fun _ h => by simp [tlen] at h
  | k + 1 => by
    unfold tlen; split
    · exact tlen_right f k
    · rename_i h; intro j hj; have : j = k := by omega
      rw [this]; exact h
theorem tlen_of_right {f : Nat → Nat} {n : Nat} (h : Right f n) : tlen f n = n := by
  cases n with
  | zero => rfl
  | succ k => unfold tlen; rw [if_neg (h k rfl)]
theorem Right.ge {f : Nat → Nat} {k : Nat} (h : Right f (k + 1)) : B ^ k ≤ V f (k + 1) := by
  have h1 : 1 ≤ f k := by have := h k rfl; omega
  have h2 := Nat.mul_le_mul_right (B ^ k) h1
  rw [V_succ]; omega
/-- Fewer words, both right: less. -/
theorem V_lt_of_len {f g : Nat → Nat} {n m : Nat} (hf : ∀ i, i < n → f i < B) (hg : Right g m) (h : n < m) : V f n < V g m := by
  obtain ⟨k, rfl⟩ : ∃ k, m = k + 1 := ⟨m - 1, by omega⟩
  have h1 := V_lt hf
  have h2 : B ^ n ≤ B ^ k := Nat.pow_le_pow_right B_pos (by omega)
  have h3 := hg.ge
  omega
/-- As many words, the same from k + 1 on, less at k: less. -/
theorem V_lt_at {f g : Nat → Nat} {n k : Nat} (hk : k < n) (hf : ∀ i, i < n → f i < B) (ha : ∀ i, k < i → i < n → f i = g i) (h : f k < g k) : V f n < V g n := by
  have h1 := V_above (f := f) (g := g) (k := k + 1) (n := n) (by omega) (fun i a b => ha i (by omega) b)
  have h2 := V_lt (f := f) (n := k) (fun i hi => hf i (by omega))
  have h3 := Nat.mul_le_mul_right (B ^ k) (show f k + 1 ≤ g k from h)
  rw [Nat.add_mul] at h3
  rw [V_succ, V_succ] at h1
  omega
theorem eq_of_V {f g : Nat → Nat} {n : Nat} (hf : ∀ i, i < n → f i < B) (hg : ∀ i, i < n → g i < B) (h : V f n = V g n) : ∀ i, i < n → f i = g i := by
  induction n with
  | zero => intro i hi; omega
  | succ n ih =>
    have h1 := V_lt (f := f) (n := n) (fun i hi => hf i (by omega))
    have h2 := V_lt (f := g) (n := n) (fun i hi => hg i (by omega))
    rw [V_succ, V_succ] at h
    have hm1 : (V f n + f n * B ^ n) % B ^ n = V f n := by rw [Nat.add_mul_mod_self_right, Nat.mod_eq_of_lt h1]
    have hm2 : (V g n + g n * B ^ n) % B ^ n = V g n := by rw [Nat.add_mul_mod_self_right, Nat.mod_eq_of_lt h2]
    have e1 : V f n = V g n := by rw [← hm1, ← hm2, h]
    have e2 : f n = g n := by
      have : f n * B ^ n = g n * B ^ n := by omega
      exact Nat.eq_of_mul_eq_mul_right (Bp n) this
    intro i hi
    by_cases hn : i = n
    · rw [hn]; exact e2
    · exact ih (fun i hi => hf i (by omega)) (fun i hi => hg i (by omega)) e1 i (by omega)
theorem right_unique {f g : Nat → Nat} {n m : Nat} (hf : ∀ i, i < n → f i < B) (hg : ∀ i, i < m → g i < B) (rf : Right f n) (rg : Right g m) (h : V f n = V g m) :
    n = m ∧ ∀ i, i < n → f i = g i := by
  have e : n = m := by
    rcases Nat.lt_trichotomy n m with a | a | a
    · have := V_lt_of_len hf rg a; omega
    · exact a
    · have := V_lt_of_len hg rf a; omega
  subst e
  exact ⟨rfl, eq_of_V hf hg h⟩
theorem len_le_of_lt {f : Nat → Nat} {n L : Nat} (rf : Right f n) (h : V f n < B ^ L) : n ≤ L := by
  cases n with
  | zero => omega
  | succ k =>
    have h1 := rf.ge
    have h2 : B ^ k < B ^ L := by omega
    have := (Nat.pow_lt_pow_iff_right B_gt1).1 h2
    omega
/-- A sum's step: word and carry. -/
theorem sum_step (x y c : Nat) : (x + y + c) % B + (x + y + c) / B * B = x + y + c := by
  have := Nat.mod_add_div (x + y + c) B
  rw [Nat.mul_comm] at this; exact this
theorem sum_carry {x y c : Nat} (hx : x < B) (hy : y < B) (hc : c ≤ 1) : (x + y + c) / B ≤ 1 := by
  unfold B at *; omega
/-- A difference's step: word and borrow. -/
theorem diff_step {x y b : Nat} (hx : x < B) (hy : y < B) (hb : b ≤ 1) : (x + B - y - b) % B + y + b = x + (if x < y + b then 1 else 0) * B := by
  unfold B at *; split <;> omega
theorem mod_lt (x : Nat) : x % B < B := Nat.mod_lt _ B_pos
theorem add_arith {x y c s c' : Nat} (a b d P : Nat) (hs : s + c' * B = x + y + c) (h : a + c * P = b + d) : a + s * P + c' * (P * B) = b + x * P + (d + y * P) := by
  have h1 : (s + c' * B) * P = (x + y + c) * P := by rw [hs]
  simp only [Nat.add_mul] at h1
  have h2 : c' * (P * B) = c' * B * P := by rw [Nat.mul_assoc, Nat.mul_comm B P]
  omega
/-- A product's step: a word, v times x and what came over: word and what goes over. -/
theorem mac {v x over a : Nat} (hv : v < B) (hx : x < B) (ho : over < B) (ha : a < B) :
    v * x / B + (v * x % B + over + 0) / B + (a + (v * x % B + over + 0) % B + 0) / B < B ∧
    (a + (v * x % B + over + 0) % B + 0) % B + (v * x / B + (v * x % B + over + 0) / B + (a + (v * x % B + over + 0) % B + 0) / B) * B = a + v * x + over := by
  have h1 := Nat.mul_le_mul (show v ≤ B - 1 by omega) (show x ≤ B - 1 by omega)
  generalize v * x = p at *
  unfold B at *
  omega
theorem mac_arith {v x over a s over' : Nat} (F G H P : Nat) (hs : s + over' * B = a + v * x + over) (h : F + over * P = G + H * x) : F + s * P + over' * (P * B) = G + a * P + (H + v * P) * x := by
  have h1 : (s + over' * B) * P = (a + v * x + over) * P := by rw [hs]
  simp only [Nat.add_mul] at h1 ⊢
  have h2 : over' * (P * B) = over' * B * P := by rw [Nat.mul_assoc, Nat.mul_comm B P]
  have h3 : v * P * x = v * x * P := by rw [Nat.mul_assoc, Nat.mul_comm P x, ← Nat.mul_assoc]
  omega
/-- .. taken away. -/
theorem msc {v x over a : Nat} (hv : v < B) (hx : x < B) (ho : over < B) (ha : a < B) :
    v * x / B + (v * x % B + over + 0) / B + (if a < (v * x % B + over + 0) % B + 0 then 1 else 0) < B ∧
    (a + B - (v * x % B + over + 0) % B - 0) % B + v * x + over = a + (v * x / B + (v * x % B + over + 0) / B + (if a < (v * x % B + over + 0) % B + 0 then 1 else 0)) * B := by
  have h1 := Nat.mul_le_mul (show v ≤ B - 1 by omega) (show x ≤ B - 1 by omega)
  generalize v * x = p at *
  unfold B at *
  split <;> omega
theorem msc_arith {v x over a s over' : Nat} (F G H P : Nat) (hs : s + v * x + over = a + over' * B) (h : F + H * x = G + over * P) : F + s * P + (H + v * P) * x = G + a * P + over' * (P * B) := by
  have h1 : (s + v * x + over) * P = (a + over' * B) * P := by rw [hs]
  simp only [Nat.add_mul] at h1 ⊢
  have h2 : over' * (P * B) = over' * B * P := by rw [Nat.mul_assoc, Nat.mul_comm B P]
  have h3 : v * P * x = v * x * P := by rw [Nat.mul_assoc, Nat.mul_comm P x, ← Nat.mul_assoc]
  omega
theorem sub_arith {x y b s b' : Nat} (F G H P : Nat) (hs : s + y + b = x + b' * B) (h : F + H = G + b * P) : F + s * P + (H + y * P) = G + x * P + b' * (P * B) := by
  have h1 : (s + y + b) * P = (x + b' * B) * P := by rw [hs]
  simp only [Nat.add_mul] at h1 ⊢
  have h2 : b' * (P * B) = b' * B * P := by rw [Nat.mul_assoc, Nat.mul_comm B P]
  omega
/-- Words k .. k + m - 1 of f put in place by those of h. -/
def spl (f h : Nat → Nat) (k m : Nat) : Nat → Nat := fun i => if k ≤ i ∧ i < k + m then h (i - k) else f i
theorem spl_in (f h : Nat → Nat) {k m i : Nat} (hi : i < m) : spl f h k m (k + i) = h i := by
  unfold spl; rw [if_pos ⟨by omega, by omega⟩]; congr 1; omega
theorem spl_out (f h : Nat → Nat) {k m i : Nat} (hi : i < k ∨ k + m ≤ i) : spl f h k m i = f i := by unfold spl; rw [if_neg (by omega)]
theorem spl_V (f h : Nat → Nat) (k m : Nat) : V (spl f h k m) (k + m) = V f k + B ^ k * V h m := by
  rw [V_split, V_congr (g := f) (fun i hi => spl_out f h (.inl hi)), V_congr (f := fun i => spl f h k m (k + i)) (g := h) (fun i hi => spl_in f h hi)]
theorem mul_arith {F O H x A P : Nat} (a D Q R : Nat) (h1 : F + O * Q = R + H * x) (h2 : a + P * R = A * H) (hD : D = P * Q) : a + P * F + O * D = (A + x * P) * H := by
  have h3 : P * (F + O * Q) = P * (R + H * x) := by rw [h1]
  rw [Nat.mul_add, Nat.mul_add] at h3
  have h4 : P * (O * Q) = O * D := by rw [hD, Nat.mul_left_comm]
  have h5 : x * P * H = P * (H * x) := by rw [Nat.mul_comm x P, Nat.mul_assoc, Nat.mul_comm x H]
  rw [Nat.add_mul]; omega
end Go.MagT
/- Decimal digits in memory; the document's own Add: what it answers. -/
namespace Go.Proofs.YtbeohedkeklaiaaGreatDoor
open Go.RowKit
/-- The slice at ao reads as the digits f 0 .. f (n - 1). -/
def DReads (w : World) (ao : Option Addr) (n : Nat) (f : Nat → Nat) : Prop :=
  ∀ i, i < n → ∃ b o, ao = some ⟨b, o, none⟩ ∧ w.cell? ⟨b, o + i, none⟩ = some (.int .i64 ((f i : Nat) : Int)) ∧ f i < MagT.B
theorem DReads.less {w : World} {ao : Option Addr} {n m : Nat} {f : Nat → Nat} (h : DReads w ao n f) (hm : m ≤ n) : DReads w ao m f := fun i hi => h i (by omega)
theorem DReads.lt {w : World} {ao : Option Addr} {n : Nat} {f : Nat → Nat} (h : DReads w ao n f) : ∀ i, i < n → f i < MagT.B := fun i hi => by obtain ⟨_, _, _, _, h3⟩ := h i hi; exact h3
theorem DReads.below {m : Nat} {w w' : World} {bo : Option Addr} {h : Nat → Nat} (hr : DReads w bo m h) (hb : Below w.heap.size w w') : DReads w' bo m h := by
  intro i hi
  obtain ⟨b', o', e, hc, hl⟩ := hr i hi
  exact ⟨b', o', e, by rw [hb.cell (p := ⟨b', o' + i, none⟩) (World.block_lt_of_cell? w _ hc)]; exact hc, hl⟩
/-- A slice of decimal digits, right, at most L of them, that count N. -/
def Dec (w : World) (v : Value) (L N : Nat) : Prop := ∃ ao n c f, v = .slice ao n c ∧ n ≤ c ∧ n ≤ L ∧ DReads w ao n f ∧ MagT.V f n = N ∧ MagT.Right f n
theorem Dec.below {w w' : World} {v : Value} {L N : Nat} (h : Dec w v L N) (hb : Below w.heap.size w w') : Dec w' v L N := by
  obtain ⟨ao, n, c, f, h1, h2, h3, h4, h5⟩ := h; exact ⟨ao, n, c, f, h1, h2, h3, h4.below hb, h5⟩
theorem Dec.more {w : World} {v : Value} {L L' N : Nat} (h : Dec w v L N) (hL : L ≤ L') : Dec w v L' N := by
  obtain ⟨ao, n, c, f, h1, h2, h3, h4, h5⟩ := h; exact ⟨ao, n, c, f, h1, h2, by omega, h4, h5⟩
theorem Dec.short {w : World} {v : Value} {L N K : Nat} (h : Dec w v L N) (hN : N < MagT.B ^ K) : Dec w v K N := by
  obtain ⟨ao, n, c, f, h1, h2, h3, h4, h5, h6⟩ := h
  exact ⟨ao, n, c, f, h1, h2, MagT.len_le_of_lt h6 (by rw [h5]; exact hN), h4, h5, h6⟩
theorem Dec.of_trim {w : World} {ao : Option Addr} {n c : Nat} {f : Nat → Nat} (hr : DReads w ao n f) (hc : n ≤ c) : Dec w (.slice ao (MagT.tlen f n) c) n (MagT.V f n) :=
  ⟨ao, MagT.tlen f n, c, f, rfl, by have := MagT.tlen_le f n; omega, MagT.tlen_le f n, hr.less (MagT.tlen_le f n), MagT.tlen_V f n, MagT.tlen_right f n⟩
theorem info_int : (Tryz.prog.info? 3).map (fun i => (i.zero, i.size, i.bytes)) = some (some (.int .i64 0), 1, 8) := by kernel_rfl
theorem under_ints : Tryz.prog.underlying 37 = some (.slice 3) := by kernel_rfl
set_option maxHeartbeats 400000 in
theorem dtrim_any (ao : Option Addr) (n c : Nat) (w : World) (hn : n ≤ 9000000000) (f : Nat → Nat) (hnc : n ≤ c) (hc : DReads w ao n f) :
    Calls Tryz.prog 80 #[.slice ao n c] w fun e w' => e = .returned (.slice ao (MagT.tlen f n) c) ∧ w = w' := by
  go_enter Tryz.func80, Tryz.ntmps80
  go_wp2
  go_loop [3] (fun i => ∃ k : Nat, k ≤ n ∧ i = .int .i64 k ∧ MagT.tlen f n = MagT.tlen f k) (fun i => (intOf i).toNat)
  case atStart => exact ⟨n, Nat.le_refl _, rfl, rfl⟩
  case round =>
    obtain ⟨k, hk, rfl, hr⟩ := hrel
    have HR := Lib.hid hr; clear hr
    cases k with
    | zero =>
      clear hc
      go_wp2
      go_ret
      exact ⟨by rw [HR.out, MagT.tlen]; rfl, rfl⟩
    | succ k =>
      obtain ⟨b, o, rfl, hcell, _⟩ := hc k (by omega)
      clear hc
      by_cases h0 : f k = 0
      · have H0 := Lib.hid h0; rw [h0] at hcell
        clear h0
        go_wp2
        exact ⟨⟨k, by omega, rfl, by rw [HR.out, MagT.tlen, if_pos H0.out]⟩, by simp [intOf]⟩
      · have h0' : (((f k : Nat) : Int) == 0) = false := by simp only [beq_eq_false_iff_ne]; omega
        obtain ⟨x, hx⟩ : ∃ x, x = f k := ⟨_, rfl⟩
        rw [← hx] at hcell h0'
        have HX := Lib.hid hx; have H0 := Lib.hid h0; clear hx h0
        go_wp2
        go_ret
        exact ⟨by rw [HR.out, MagT.tlen, if_neg H0.out]; rfl, rfl⟩
/-- The digits that have been gathered. -/
def digs (o : Nat → Nat) (k : Nat) : List Value := (List.range k).map fun i => .int .i64 ((o i : Nat) : Int)
theorem digs_succ (o : Nat → Nat) (k : Nat) : digs o (k + 1) = digs o k ++ [.int .i64 ((o k : Nat) : Int)] := by simp [digs, List.range_succ]
theorem digs_congr {o o' : Nat → Nat} {k : Nat} (h : ∀ i, i < k → o i = o' i) : digs o k = digs o' k := by
  unfold digs; apply List.map_congr_left; intro i hi; rw [h i (by simpa using hi)]
theorem digs_at (o : Nat → Nat) (k i : Nat) (h : i < k) : (digs o k)[i]? = some (.int .i64 ((o i : Nat) : Int)) := by simp [digs, List.getElem?_map, List.getElem?_range h]
/-- What is owned reads as digits. -/
theorem DReads.owned {w : World} {base k : Nat} {v : Value} {o : Nat → Nat} (h : w.ownsRow base 3 1 v k (digs o k)) (ho : ∀ i, i < k → o i < MagT.B) : ∃ ao c, v = .slice ao k c ∧ k ≤ c ∧ DReads w ao k o := by
  have h0 := h
  rcases h.2 with ⟨rfl, rfl⟩ | ⟨g, cap, cur, rfl, _, _, hn, _⟩
  · exact ⟨none, 0, rfl, Nat.le_refl _, fun i hi => by omega⟩
  · refine ⟨_, cap, rfl, hn, fun i hi => ⟨g, 0, rfl, ?_, ho i hi⟩⟩
    have := h0.cellAt i (by omega)
    rw [digs_at o k i hi] at this
    rw [Nat.zero_add]; exact this
end Go.Proofs.YtbeohedkeklaiaaGreatDoor
/- The document's own Add: what it answers. -/
namespace Go.Proofs.YtbeohedkeklaiaaGreatDoor
open Go.RowKit
/-- One round of the sum of digits. -/
theorem dsum_step (x y c : Nat) : (c + x + y) % 10 + (c + x + y) / 10 * 10 = x + y + c := by omega
theorem zext {f : Nat → Nat} {n k : Nat} (hk : k ≤ n) : MagT.V (fun i => if i < n then f i else 0) k = MagT.V f k := MagT.V_congr (fun i hi => if_pos (by omega))
theorem zext_ge {f : Nat → Nat} {n k : Nat} (hk : n ≤ k) : MagT.V (fun i => if i < n then f i else 0) k = MagT.V f n := by
  obtain ⟨d, rfl⟩ : ∃ d, k = n + d := ⟨k - n, by omega⟩
  rw [MagT.V_split, zext (Nat.le_refl n), MagT.V_none (f := fun i => if n + i < n then f (n + i) else 0) (fun i _ => if_neg (by omega))]; simp
set_option maxRecDepth 100000 in
set_option maxHeartbeats 4000000 in
theorem radd_any (va vb : Value) (L M X Y : Nat) (w : World) (hL : L ≤ 1000000) (hM : M ≤ 1000000) (ha : Dec w va L X) (hb : Dec w vb M Y) :
    Calls Tryz.prog 50 #[va, vb] w fun e w' => ∃ v, e = .returned v ∧ Dec w' v (max L M + 1) (X + Y) ∧ Below w.heap.size w w' := by
  obtain ⟨ao, n, ca, f, rfl, hnc, hnL, hra, hX, _⟩ := ha
  obtain ⟨bo, m, cb, g, rfl, hmc, hmM, hrb, hY, _⟩ := hb
  have hn9 : n ≤ 1000000 := by omega
  have hm9 : m ≤ 1000000 := by omega
  obtain ⟨i0, hi, hz0, hz1, hz2⟩ := info_parts info_int
  obtain ⟨fz, hfz⟩ : ∃ fz : Nat → Nat, fz = fun i => if i < n then f i else 0 := ⟨_, rfl⟩
  obtain ⟨gz, hgz⟩ : ∃ gz : Nat → Nat, gz = fun i => if i < m then g i else 0 := ⟨_, rfl⟩
  have HA := Lib.hid hra; have HB := Lib.hid hrb; have HX := Lib.hid hX; have HY := Lib.hid hY; have HFZ := Lib.hid hfz; have HGZ := Lib.hid hgz
  have HI := Lib.hid hi; have HZ0 := Lib.hid hz0; have HZ1 := Lib.hid hz1; have HZ2 := Lib.hid hz2
  clear hra hrb hX hY hfz hgz hi hz0 hz1 hz2
  go_enter Tryz.func50, Tryz.ntmps50
  go_wp2
  go_loopw [5, 6, 7] (fun ov cy i wr => ∃ k cc : Nat, ∃ o : Nat → Nat, k ≤ max n m + 1 ∧ cc ≤ 1 ∧ (k = max n m + 1 → cc = 0) ∧ i = .int .i64 k ∧ cy = .int .i64 cc ∧
      wr.ownsRow w.heap.size 3 1 ov k (digs o k) ∧ Below w.heap.size w wr ∧ (∀ i, i < k → o i < 10) ∧ MagT.V o k + cc * 10 ^ k = MagT.V fz k + MagT.V gz k) (fun _ _ i _ => max n m + 1 - (intOf i).toNat)
  case atStart => exact ⟨0, 0, fun _ => 0, Nat.zero_le _, by omega, fun _ => rfl, by go_num, by go_num, World.ownsRow_nil _ _ _ _, Below.refl _ _, fun i hi => by omega, rfl⟩
  case round =>
    obtain ⟨k, cc, o, hk, hcc, hlast, rfl, rfl, hown, hbel, ho, hV⟩ := hrel
    have HOWN := Lib.hid hown; have HO := Lib.hid ho; have HV := Lib.hid hV; have HLAST := Lib.hid hlast
    clear hown ho hV hlast
    have hk9 : k ≤ 1000001 := by omega
    by_cases hka : k < n
    · obtain ⟨ab, aof, rfl, hac, haB⟩ := (HA.out.below hbel) k hka
      have ha10 : f k < 10 := haB
      have hfk : fz k = f k := by rw [HFZ.out]; exact if_pos hka
      by_cases hkb : k < m
      · obtain ⟨bb, bof, rfl, hbc, hbB⟩ := (HB.out.below hbel) k hkb
        have hb10 : g k < 10 := hbB
        have hgk : gz k = g k := by rw [HGZ.out]; exact if_pos hkb
        have HFK := Lib.hid hfk; have HGK := Lib.hid hgk; clear hfk hgk
        obtain ⟨d, hd⟩ : ∃ d, (cc + f k + g k) % 10 = d := ⟨_, rfl⟩
        obtain ⟨c2, hc2⟩ : ∃ c2, (cc + f k + g k) / 10 = c2 := ⟨_, rfl⟩
        have e1 : ((cc : Int) + (f k : Int) + (g k : Int)) % 10 = (d : Int) := by omega
        have e2 : ((cc : Int) + (f k : Int) + (g k : Int)) / 10 = (c2 : Int) := by omega
        have hd10 : d < 10 := by omega
        have hc21 : c2 ≤ 1 := by omega
        have hstep : d + c2 * 10 = f k + g k + cc := by omega
        have HST := Lib.hid hstep; clear hstep hd hc2
        go_wp2_with (at_builtin; go_loud (refine wpList_append_own _ rfl (.tmp 46) (.tmp 49) 37 rfl w.heap.size 3 i0 (.int .i64 0) 1 8 under_ints HI.out HZ0.out HZ1.out HZ2.out rfl (by decide) _ k (digs o k) rfl (HOWN.out.alloc _) ⟨wr.heap.size, 0, none⟩ 1 1 [.int .i64 (d : Int)] rfl rfl (by intro j u hj; match j, hj with | 0, hj => (simp at hj; subst hj; simp [Addr.add, go_sem])) (by intro u hu; simp at hu; subst hu; rfl) (by unfold maxLen; omega) (by omega) (by have := hbel.size; simp; omega) ?_; intro v1 w1 hown1 hgrow1 _; have HOWN1 := Lib.hid hown1; clear hown1))
        have E2 := Lib.hid e2; clear e1 e2
        have hbel1 : Below w.heap.size w w1 := (hbel.alloc hbel.size _).grown hgrow1 (by have := hbel.size; simp; omega) (fun kk hkk => (HOWN.out.lt kk hkk).1)
        refine ⟨⟨k + 1, c2, MagT.upd o k d, by omega, hc21, ?_, by go_num, by first | rfl | rw [E2.out], ?_, hbel1, ?_, ?_⟩, by simp [intOf]; omega⟩
        · intro hl
          have h9 := HST.out
          omega
        · have := HOWN1.out
          rw [digs_congr (fun i hi => (MagT.upd_other o k d (show i ≠ k by omega)).symm), show Value.int .i64 (d : Int) = .int .i64 ((MagT.upd o k d k : Nat) : Int) by rw [MagT.upd_same], ← digs_succ] at this
          exact this
        · intro i hi
          by_cases e : i = k
          · rw [e, MagT.upd_same]; exact hd10
          · rw [MagT.upd_other _ _ _ e]; exact HO.out i (by omega)
        · rw [MagT.V_upd_succ, MagT.V_succ fz, MagT.V_succ gz, HFK.out, HGK.out, Nat.pow_succ]
          exact MagT.add_arith _ _ _ _ HST.out HV.out
      · have hgk : gz k = 0 := by rw [HGZ.out]; exact if_neg hkb
        have HFK := Lib.hid hfk; have HGK := Lib.hid hgk; clear hfk hgk
        obtain ⟨d, hd⟩ : ∃ d, (cc + f k) % 10 = d := ⟨_, rfl⟩
        obtain ⟨c2, hc2⟩ : ∃ c2, (cc + f k) / 10 = c2 := ⟨_, rfl⟩
        have e1 : ((cc : Int) + (f k : Int)) % 10 = (d : Int) := by omega
        have e2 : ((cc : Int) + (f k : Int)) / 10 = (c2 : Int) := by omega
        have hd10 : d < 10 := by omega
        have hc21 : c2 ≤ 1 := by omega
        have hstep : d + c2 * 10 = f k + 0 + cc := by omega
        have HST := Lib.hid hstep; clear hstep hd hc2
        go_wp2_with (at_builtin; go_loud (refine wpList_append_own _ rfl (.tmp 46) (.tmp 49) 37 rfl w.heap.size 3 i0 (.int .i64 0) 1 8 under_ints HI.out HZ0.out HZ1.out HZ2.out rfl (by decide) _ k (digs o k) rfl (HOWN.out.alloc _) ⟨wr.heap.size, 0, none⟩ 1 1 [.int .i64 (d : Int)] rfl rfl (by intro j u hj; match j, hj with | 0, hj => (simp at hj; subst hj; simp [Addr.add, go_sem])) (by intro u hu; simp at hu; subst hu; rfl) (by unfold maxLen; omega) (by omega) (by have := hbel.size; simp; omega) ?_; intro v1 w1 hown1 hgrow1 _; have HOWN1 := Lib.hid hown1; clear hown1))
        have E2 := Lib.hid e2; clear e1 e2
        have hbel1 : Below w.heap.size w w1 := (hbel.alloc hbel.size _).grown hgrow1 (by have := hbel.size; simp; omega) (fun kk hkk => (HOWN.out.lt kk hkk).1)
        refine ⟨⟨k + 1, c2, MagT.upd o k d, by omega, hc21, ?_, by go_num, by first | rfl | rw [E2.out], ?_, hbel1, ?_, ?_⟩, by simp [intOf]; omega⟩
        · intro hl
          have h9 := HST.out
          omega
        · have := HOWN1.out
          rw [digs_congr (fun i hi => (MagT.upd_other o k d (show i ≠ k by omega)).symm), show Value.int .i64 (d : Int) = .int .i64 ((MagT.upd o k d k : Nat) : Int) by rw [MagT.upd_same], ← digs_succ] at this
          exact this
        · intro i hi
          by_cases e : i = k
          · rw [e, MagT.upd_same]; exact hd10
          · rw [MagT.upd_other _ _ _ e]; exact HO.out i (by omega)
        · rw [MagT.V_upd_succ, MagT.V_succ fz, MagT.V_succ gz, HFK.out, HGK.out, Nat.pow_succ]
          exact MagT.add_arith _ _ _ _ HST.out HV.out
    · have hfk : fz k = 0 := by rw [HFZ.out]; exact if_neg hka
      by_cases hkb : k < m
      · obtain ⟨bb, bof, rfl, hbc, hbB⟩ := (HB.out.below hbel) k hkb
        have hb10 : g k < 10 := hbB
        have hgk : gz k = g k := by rw [HGZ.out]; exact if_pos hkb
        have HFK := Lib.hid hfk; have HGK := Lib.hid hgk; clear hfk hgk
        obtain ⟨d, hd⟩ : ∃ d, (cc + g k) % 10 = d := ⟨_, rfl⟩
        obtain ⟨c2, hc2⟩ : ∃ c2, (cc + g k) / 10 = c2 := ⟨_, rfl⟩
        have e1 : ((cc : Int) + (g k : Int)) % 10 = (d : Int) := by omega
        have e2 : ((cc : Int) + (g k : Int)) / 10 = (c2 : Int) := by omega
        have hd10 : d < 10 := by omega
        have hc21 : c2 ≤ 1 := by omega
        have hstep : d + c2 * 10 = 0 + g k + cc := by omega
        have HST := Lib.hid hstep; clear hstep hd hc2
        go_wp2_with (at_builtin; go_loud (refine wpList_append_own _ rfl (.tmp 46) (.tmp 49) 37 rfl w.heap.size 3 i0 (.int .i64 0) 1 8 under_ints HI.out HZ0.out HZ1.out HZ2.out rfl (by decide) _ k (digs o k) rfl (HOWN.out.alloc _) ⟨wr.heap.size, 0, none⟩ 1 1 [.int .i64 (d : Int)] rfl rfl (by intro j u hj; match j, hj with | 0, hj => (simp at hj; subst hj; simp [Addr.add, go_sem])) (by intro u hu; simp at hu; subst hu; rfl) (by unfold maxLen; omega) (by omega) (by have := hbel.size; simp; omega) ?_; intro v1 w1 hown1 hgrow1 _; have HOWN1 := Lib.hid hown1; clear hown1))
        have E2 := Lib.hid e2; clear e1 e2
        have hbel1 : Below w.heap.size w w1 := (hbel.alloc hbel.size _).grown hgrow1 (by have := hbel.size; simp; omega) (fun kk hkk => (HOWN.out.lt kk hkk).1)
        refine ⟨⟨k + 1, c2, MagT.upd o k d, by omega, hc21, ?_, by go_num, by first | rfl | rw [E2.out], ?_, hbel1, ?_, ?_⟩, by simp [intOf]; omega⟩
        · intro hl
          have h9 := HST.out
          omega
        · have := HOWN1.out
          rw [digs_congr (fun i hi => (MagT.upd_other o k d (show i ≠ k by omega)).symm), show Value.int .i64 (d : Int) = .int .i64 ((MagT.upd o k d k : Nat) : Int) by rw [MagT.upd_same], ← digs_succ] at this
          exact this
        · intro i hi
          by_cases e : i = k
          · rw [e, MagT.upd_same]; exact hd10
          · rw [MagT.upd_other _ _ _ e]; exact HO.out i (by omega)
        · rw [MagT.V_upd_succ, MagT.V_succ fz, MagT.V_succ gz, HFK.out, HGK.out, Nat.pow_succ]
          exact MagT.add_arith _ _ _ _ HST.out HV.out
      · have hgk : gz k = 0 := by rw [HGZ.out]; exact if_neg hkb
        have HFK := Lib.hid hfk; have HGK := Lib.hid hgk; clear hfk hgk
        by_cases hc0 : cc = 0
        · subst hc0
          obtain ⟨oo, oc, rfl, hoc, hro⟩ := DReads.owned HOWN.out HO.out
          have hv : MagT.V o k = X + Y := by
            have h1 := HV.out
            rw [HFZ.out, HGZ.out, zext_ge (by omega), zext_ge (by omega), HX.out, HY.out] at h1
            omega
          have HRO := Lib.hid hro; have HVV := Lib.hid hv; clear hro hv
          go_wp2_with (go_at_call 80; refine (dtrim_any _ _ _ _ (by omega) o hoc HRO.out).mono ?_; rintro e w4 ⟨rfl, rfl⟩)
          go_ret
          have := Dec.of_trim HRO.out hoc
          rw [HVV.out] at this
          exact ⟨_, rfl, this.more (by omega), hbel⟩
        · have hcc1 : (0 : Int) < (cc : Int) := by omega
          have hkM : k ≠ max n m + 1 := fun h => hc0 (HLAST.out h)
          obtain ⟨d, hd⟩ : ∃ d, (cc) % 10 = d := ⟨_, rfl⟩
          obtain ⟨c2, hc2⟩ : ∃ c2, (cc) / 10 = c2 := ⟨_, rfl⟩
          have e1 : ((cc : Int)) % 10 = (d : Int) := by omega
          have e2 : ((cc : Int)) / 10 = (c2 : Int) := by omega
          have hd10 : d < 10 := by omega
          have hc21 : c2 ≤ 1 := by omega
          have hstep : d + c2 * 10 = 0 + 0 + cc := by omega
          have HST := Lib.hid hstep; clear hstep hd hc2
          go_wp2_with (at_builtin; go_loud (refine wpList_append_own _ rfl (.tmp 46) (.tmp 49) 37 rfl w.heap.size 3 i0 (.int .i64 0) 1 8 under_ints HI.out HZ0.out HZ1.out HZ2.out rfl (by decide) _ k (digs o k) rfl (HOWN.out.alloc _) ⟨wr.heap.size, 0, none⟩ 1 1 [.int .i64 (d : Int)] rfl rfl (by intro j u hj; match j, hj with | 0, hj => (simp at hj; subst hj; simp [Addr.add, go_sem])) (by intro u hu; simp at hu; subst hu; rfl) (by unfold maxLen; omega) (by omega) (by have := hbel.size; simp; omega) ?_; intro v1 w1 hown1 hgrow1 _; have HOWN1 := Lib.hid hown1; clear hown1))
          have E2 := Lib.hid e2; clear e1 e2
          have hbel1 : Below w.heap.size w w1 := (hbel.alloc hbel.size _).grown hgrow1 (by have := hbel.size; simp; omega) (fun kk hkk => (HOWN.out.lt kk hkk).1)
          refine ⟨⟨k + 1, c2, MagT.upd o k d, by omega, hc21, ?_, by go_num, by first | rfl | rw [E2.out], ?_, hbel1, ?_, ?_⟩, by simp [intOf]; omega⟩
          · intro hl
            have h9 := HST.out
            omega
          · have := HOWN1.out
            rw [digs_congr (fun i hi => (MagT.upd_other o k d (show i ≠ k by omega)).symm), show Value.int .i64 (d : Int) = .int .i64 ((MagT.upd o k d k : Nat) : Int) by rw [MagT.upd_same], ← digs_succ] at this
            exact this
          · intro i hi
            by_cases e : i = k
            · rw [e, MagT.upd_same]; exact hd10
            · rw [MagT.upd_other _ _ _ e]; exact HO.out i (by omega)
          · rw [MagT.V_upd_succ, MagT.V_succ fz, MagT.V_succ gz, HFK.out, HGK.out, Nat.pow_succ]
            exact MagT.add_arith _ _ _ _ HST.out HV.out
end Go.Proofs.YtbeohedkeklaiaaGreatDoor
/- The document's own Digits: what it answers. -/
namespace Go.Proofs.YtbeohedkeklaiaaGreatDoor
open Go.RowKit Go.MagM
theorem B_ten (n : Nat) : B ^ n ≤ MagT.B ^ (20 * n) := by
  rw [Nat.pow_mul]
  exact Nat.pow_le_pow_left (by unfold B MagT.B; omega) n
theorem V_low' (f : Nat → Nat) (k m : Nat) : V (fun i => f (k + i)) (m + 1) = f k + B * V (fun i => f (k + 1 + i)) m := by
  have := V_split (fun i => f (k + i)) 1 m
  rw [Nat.add_comm 1 m, V_one, Nat.pow_one] at this
  simp only [Nat.add_zero] at this
  rw [this]; simp only [Nat.add_assoc]
/-- What has been read of a number, bit by bit, from the highest: P the words above, x the word, j bits of it to go. -/
def part (P x j : Nat) : Nat := P * 2 ^ (64 - j) + x / 2 ^ j
theorem part_start {P x : Nat} (hx : x < B) : part P x 64 = P := by
  unfold part
  rw [Nat.div_eq_of_lt (show x < 2 ^ 64 from hx)]; simp
theorem part_end (P x : Nat) : part P x 0 = P * B + x := by
  unfold part
  rw [Nat.pow_zero, Nat.div_one]; rfl
theorem part_step (P x j : Nat) (hj : j < 64) : part P x j = part P x (j + 1) + part P x (j + 1) + x / 2 ^ j % 2 := by
  unfold part
  have e1 : 2 ^ (64 - j) = 2 ^ (64 - (j + 1)) * 2 := by rw [← Nat.pow_succ]; congr 1; omega
  have e2 : x / 2 ^ (j + 1) = x / 2 ^ j / 2 := by rw [Nat.pow_succ, Nat.div_div_eq_div_mul]
  rw [e1, e2, ← Nat.mul_assoc]; omega
theorem part_lt {P x j m : Nat} (hP : P < B ^ m) (hx : x < B) (hj : j ≤ 64) : part P x j < B ^ (m + 1) := by
  unfold part
  have h1 : x / 2 ^ j < 2 ^ (64 - j) := by
    apply Nat.div_lt_of_lt_mul
    rw [← Nat.pow_add, show j + (64 - j) = 64 by omega]; exact hx
  have h2 := Nat.mul_le_mul_right (2 ^ (64 - j)) (show P + 1 ≤ B ^ m from hP)
  rw [Nat.add_mul] at h2
  have h3 : 2 ^ (64 - j) ≤ B := Nat.pow_le_pow_right (by omega) (show 64 - j ≤ 64 by omega)
  have h4 := Nat.mul_le_mul_left (B ^ m) h3
  rw [Nat.pow_succ]; omega
theorem bit_of (x j : Nat) (hx : x < B) : bits .and .u64 ((x : Int) / 2 ^ j) 1 = ((x / 2 ^ j % 2 : Nat) : Int) := by
  have h1 : x / 2 ^ j < B := Nat.lt_of_le_of_lt (Nat.div_le_self _ _) hx
  have h3 := bits_and_u64_nat (x / 2 ^ j) 1 (by unfold B at h1; exact h1) (by omega)
  have h4 : x / 2 ^ j &&& 1 = x / 2 ^ j % 2 := Nat.and_two_pow_sub_one_eq_mod (x / 2 ^ j) 1
  rw [h4] at h3
  rw [show ((x : Int) / 2 ^ j) = ((x / 2 ^ j : Nat) : Int) by simp]
  exact h3
theorem Dec.one {w : World} (T : TypeId) : Dec (w.alloc (.cells #[.int .i64 1] T)) (.slice (some ⟨w.heap.size, 0, none⟩) 1 1) 1 1 := by
  refine ⟨_, 1, 1, fun _ => 1, rfl, Nat.le_refl _, Nat.le_refl _, ?_, by simp [MagT.V], fun _ _ => Nat.one_ne_zero⟩
  intro i hi
  refine ⟨w.heap.size, 0, rfl, ?_, by show 1 < MagT.B; unfold MagT.B; omega⟩
  have : i = 0 := by omega
  subst this
  exact World.cell?_alloc_new w _ _ _
theorem Dec.nil (w : World) (L : Nat) : Dec w (.slice none 0 0) L 0 := ⟨none, 0, 0, fun _ => 0, rfl, Nat.le_refl _, Nat.zero_le _, fun i hi => by omega, rfl, fun k h => by omega⟩
set_option maxRecDepth 100000 in
set_option maxHeartbeats 4000000 in
theorem Digits_any (ao : Option Addr) (n c : Nat) (f : Nat → Nat) (w : World) (hn : n ≤ 1000) (hr : Reads w ao n f) :
    Calls Tryz.prog 19 #[.slice ao n c] w fun e w' => ∃ v, e = .returned v ∧ Dec w' v (20 * n) (V f n) ∧ Below w.heap.size w w' := by
  have HR := Lib.hid hr; clear hr
  go_enter Tryz.func19, Tryz.ntmps19
  go_wp2
  go_loopw [3, 4] (fun ov i wr => ∃ k : Nat, k ≤ n ∧ i = .int .i64 ((k : Int) - 1) ∧ Dec wr ov (20 * n) (V (fun i => f (k + i)) (n - k)) ∧ Below w.heap.size w wr) (fun _ i _ => (intOf i + 1).toNat)
  case atStart => exact ⟨n, Nat.le_refl _, rfl, by rw [Nat.sub_self]; exact Dec.nil _ _, Below.refl _ _⟩
  case round =>
    obtain ⟨k, hk, rfl, hdec, hbel⟩ := hrel
    cases k with
    | zero =>
      have hd2 : Dec wr u3 (20 * n) (V f n) := by simpa using hdec
      clear hdec
      go_wp2
      go_ret
      exact ⟨_, rfl, hd2, hbel⟩
    | succ k =>
      have hk1 : ((k + 1 : Nat) : Int) - 1 = (k : Int) := by omega
      rw [hk1]; clear hk1
      obtain ⟨m, hm⟩ : ∃ m, n - (k + 1) = m := ⟨_, rfl⟩
      rw [hm] at hdec
      obtain ⟨P, hP⟩ : ∃ P, V (fun i => f (k + 1 + i)) m = P := ⟨_, rfl⟩
      rw [hP] at hdec
      obtain ⟨ab, aof, rfl, hac0, hxB⟩ := HR.out k (by omega)
      have hPB : P < B ^ m := by rw [← hP]; exact V_lt (fun i hi => HR.out.lt _ (by omega))
      have hbound : ∀ j, j ≤ 64 → part P (f k) j < MagT.B ^ (20 * n) := by
        intro j hj
        have h1 := part_lt hPB hxB hj
        have h2 : B ^ (m + 1) ≤ B ^ n := Nat.pow_le_pow_right B_pos (by omega)
        have h3 := B_ten n
        omega
      have hsum : V (fun i => f (k + i)) (n - k) = part P (f k) 0 := by
        rw [show n - k = m + 1 by omega, V_low', part_end, hP, Nat.mul_comm]; omega
      have HBO := Lib.hid hbound; have HSU := Lib.hid hsum; have HXB := Lib.hid hxB; have HST := Lib.hid (part_start (P := P) hxB)
      clear hbound hsum hxB hPB hP
      go_wp2
      go_loopw [3, 5] (fun ov i wr => ∃ j : Nat, j ≤ 64 ∧ i = .int .i64 ((j : Int) - 1) ∧ Dec wr ov (20 * n) (part P (f k) j) ∧ Below w.heap.size w wr) (fun _ i _ => (intOf i + 1).toNat)
      case atStart => exact ⟨64, Nat.le_refl _, rfl, by rw [HST.out]; exact hdec, hbel⟩
      case round =>
        clear hdec hbel
        obtain ⟨j, hj, rfl, hdec, hbel⟩ := hrel
        cases j with
        | zero =>
          go_wp2
          refine ⟨⟨k, by omega, rfl, by rw [HSU.out]; exact hdec, hbel⟩, by simp [intOf]⟩
        | succ j =>
          have hjj : ((j + 1 : Nat) : Int) - 1 = (j : Int) := by omega
          rw [hjj]; clear hjj
          have hps := part_step P (f k) j (by omega)
          have hb1 := HBO.out j (by omega)
          obtain ⟨P1, hP1⟩ : ∃ P1, part P (f k) (j + 1) = P1 := ⟨_, rfl⟩
          rw [hP1] at hdec hps
          have hbit := bit_of (f k) j HXB.out
          obtain ⟨b, hb⟩ : ∃ b, f k / 2 ^ j % 2 = b := ⟨_, rfl⟩
          rw [hb] at hps hbit
          have hb2 : b ≤ 1 := by omega
          have hP1B : P1 + P1 < MagT.B ^ (20 * n) := by omega
          have HPS := Lib.hid hps; have HB1 := Lib.hid hb1; have HP1B := Lib.hid hP1B
          clear hps hb1 hP1B hP1 hb
          go_wp2_with fail
          refine (radd_any _ _ (20 * n) (20 * n) P1 P1 _ (by omega) (by omega) hdec hdec).mono ?_
          rintro e w2 ⟨v2, rfl, hd2, hbb2⟩
          have hd3 := hd2.short HP1B.out
          have hbel2 := hbel.trans (hbb2.mono hbel.size)
          obtain ⟨ab', aof', e', hac, _⟩ := (HR.out.below hbel2) k (by omega)
          simp at e'; obtain ⟨rfl, rfl⟩ := e'
          clear hd2 hbb2 hdec hbel
          have hb01 : b = 0 ∨ b = 1 := by omega
          rcases hb01 with rfl | rfl
          · have hpe : part P (f k) j = P1 + P1 := by have := HPS.out; omega
            have HPE := Lib.hid hpe; clear hpe
            go_wp2
            refine ⟨⟨j, by omega, rfl, by rw [HPE.out]; exact hd3, hbel2⟩, by simp [intOf]⟩
          · have HPE := HPS
            go_wp2_with fail
            refine (radd_any _ _ (20 * n) 1 (P1 + P1) 1 _ (by omega) (by omega) (hd3.below ((Below.refl _ _).alloc (Nat.le_refl _) _)) (Dec.one _)).mono ?_
            rintro e w3 ⟨v3, rfl, hd4, hbb3⟩
            have hd5 := hd4.short (by have := HB1.out; rw [HPE.out] at this; exact this)
            have hbel3 : Below w.heap.size w w3 := (hbel2.alloc hbel2.size _).trans (hbb3.mono (by have := hbel2.size; simp; omega))
            clear hd4 hbb3 hd3 hac hbit
            go_wp2
            refine ⟨⟨j, by omega, rfl, by rw [HPE.out]; exact hd5, hbel3⟩, by simp [intOf]⟩
end Go.Proofs.YtbeohedkeklaiaaGreatDoor
/- How a number's digits are told one by one: the mathematics. Of no program. -/
namespace Go.MagS
open Go
/-- One digit. -/
def dg1 (a : Nat) : UInt8 := UInt8.ofNat (48 + a % 10)
theorem dg1_nat (a : Nat) : (dg1 a).toNat = 48 + a % 10 := byte_of (by omega)
theorem dec_snoc (a : Nat) : Lib.decDigits a = (if a / 10 = 0 then [] else Lib.decDigits (a / 10)) ++ [dg1 a] := by
  by_cases h : a < 10
  · rw [dec_small h, if_pos (by omega)]; unfold dg1; rw [Nat.mod_eq_of_lt h]; rfl
  · rw [dec_big h, if_neg (by omega)]; rfl
theorem padK_step {r : Nat} (a : Nat) (hr : 0 < r) : padK (r + 1) (Lib.decDigits a) = padK r (Lib.decDigits (a / 10)) ++ [dg1 a] := by
  by_cases h : a < 10
  · rw [dec_small h, show a / 10 = 0 by omega, dec_zero]
    unfold padK dg1
    rw [Nat.mod_eq_of_lt h]
    simp only [List.length_singleton, Nat.add_sub_cancel]
    congr 1
    obtain ⟨q, rfl⟩ : ∃ q, r = q + 1 := ⟨r - 1, by omega⟩
    rw [Nat.add_sub_cancel, List.replicate_succ']
  · rw [dec_big h]
    unfold padK
    rw [List.length_append, List.length_singleton, Nat.add_sub_add_right, List.append_assoc]
    rfl
/-- The loop: what is left counts a, and j digits have been laid. -/
def tgo (k : Nat) : Nat → Nat → Nat → List UInt8 → List UInt8
  | 0, _, _, s => s
  | f + 1, a, j, s => if a ≠ 0 ∨ j ≤ k then tgo k f (a / 10) (j + 1) (dg1 a :: (if j = k ∧ 0 < k then 46 :: s else s)) else s
theorem tgo_done {k f a j : Nat} {s : List UInt8} (h : ¬ (a ≠ 0 ∨ j ≤ k)) : tgo k f a j s = s := by
  cases f with
  | zero => rfl
  | succ f => rw [tgo, if_neg h]
theorem tgo_step {k f a j : Nat} {s : List UInt8} (h : a ≠ 0 ∨ j ≤ k) : tgo k (f + 1) a j s = tgo k f (a / 10) (j + 1) (dg1 a :: (if j = k ∧ 0 < k then 46 :: s else s)) := by rw [tgo, if_pos h]
theorem tgo_front {k : Nat} : ∀ (f a j : Nat) (s : List UInt8), k < j → a < f → tgo k f a j s = (if a = 0 then [] else Lib.decDigits a) ++ s
  | 0, a, j, s, _, h => by omega
  | f + 1, a, j, s, hj, h => by
    by_cases ha : a = 0
    · rw [tgo_done (by omega), if_pos ha]; rfl
    · rw [tgo_step (.inl ha), tgo_front f (a / 10) (j + 1) _ (by omega) (by omega), if_neg ha, dec_snoc a, if_neg (show ¬ (j = k ∧ 0 < k) by omega), List.append_assoc]; rfl
/-- Where the point stands, if there is one. -/
def ptd (r : Nat) (l : List UInt8) : List UInt8 := l.take (l.length - r) ++ 46 :: l.drop (l.length - r)
theorem ptd_snoc {r : Nat} {l : List UInt8} (x : UInt8) (h : r ≤ l.length) : ptd (r + 1) (l ++ [x]) = ptd r l ++ [x] := by
  unfold ptd
  rw [List.length_append, List.length_singleton, Nat.add_sub_add_right, List.take_append_of_le_length (by omega), List.drop_append_of_le_length (by omega), List.append_assoc]; rfl
theorem tgo_all {k : Nat} (hk : 0 < k) : ∀ (r f a : Nat) (s : List UInt8), r ≤ k → a + r < f → tgo k f a (k - r) s = ptd r (padK (r + 1) (Lib.decDigits a)) ++ s
  | 0, 0, _, _, _, h => by omega
  | r + 1, 0, _, _, _, h => by omega
  | 0, f + 1, a, s, _, h => by
    rw [Nat.sub_zero, tgo_step (.inr (Nat.le_refl _)), if_pos ⟨rfl, hk⟩]
    by_cases hf : f = 0
    · subst hf
      have : a = 0 := by omega
      subst this
      rw [show (0 : Nat) / 10 = 0 from rfl]
      show tgo k 0 0 (k + 1) _ = _
      rw [tgo, dec_zero]; rfl
    · rw [tgo_front f (a / 10) (k + 1) _ (by omega) (by omega)]
      have hp : padK (0 + 1) (Lib.decDigits a) = Lib.decDigits a := by
        unfold padK
        have := dec_pos a
        rw [show 0 + 1 - (Lib.decDigits a).length = 0 by omega]; rfl
      rw [hp]
      unfold ptd
      rw [Nat.sub_zero, List.take_length, List.drop_length, dec_snoc a]
      simp
  | r + 1, f + 1, a, s, hr, h => by
    rw [tgo_step (.inr (by omega)), if_neg (by omega), show k - (r + 1) + 1 = k - r by omega, tgo_all hk r f (a / 10) _ (by omega) (by omega), padK_step a (by omega), ptd_snoc _ (by rw [padK_len]; omega), List.append_assoc]; rfl
theorem tgo_text (k a f : Nat) (hf : a + k + 1 < f) : tgo k f a 0 [] = pointed k (padK (k + 1) (Lib.decDigits a)) := by
  rcases Nat.eq_zero_or_pos k with rfl | hk
  · obtain ⟨f, rfl⟩ : ∃ g, f = g + 1 := ⟨f - 1, by omega⟩
    have hp : padK (0 + 1) (Lib.decDigits a) = Lib.decDigits a := by
      unfold padK
      have := dec_pos a
      rw [show 0 + 1 - (Lib.decDigits a).length = 0 by omega]; rfl
    rw [tgo_step (.inr (Nat.le_refl _)), if_neg (by omega), hp]
    unfold pointed
    rw [if_pos rfl]
    by_cases hf0 : f = 0
    · omega
    · by_cases ha : a / 10 < f
      · rw [tgo_front f (a / 10) 1 _ (by omega) ha, ← dec_snoc]
      · omega
  · have := tgo_all hk k f a [] (Nat.le_refl _) (by omega)
    rw [Nat.sub_self, List.append_nil] at this
    rw [this]
    unfold pointed ptd
    rw [if_neg (by omega)]
end Go.MagS
