/- What is ready, and what is not: for the invariant of a region (RegI). Over any program. -/
import Derived.Test.YtdfabocecpcmcaaPartk
import Derived.StillTail
import Derived.Test.YtdfabocecpcmcaaPartg
import Derived.Test.YtdfabocecpcmcaaParti
namespace Go.MagM
open Go
section
variable {ops : Array Oper} {md : Region.Mode} {l : Array Bool}
theorem ready_of (i : Nat) (o : Oper) (ho : ops[i]? = some o) (h0 : l.getD i true = false) (h : (o.after.all fun e => !Region.binds md e || l.getD e.on false) = true) : Region.ready md ops l ≠ [] := by
  refine List.ne_nil_of_mem (a := i) (mem_ready.2 ⟨h0, o, ho, fun e he hb => ?_⟩)
  have := Array.all_eq_true_iff_forall_mem.1 h e he
  simpa [hb] using this
theorem ready_lt {i : Nat} (h : i ∈ Region.ready md ops l) : i < ops.size := by
  obtain ⟨_, o, ho, _⟩ := mem_ready.1 h
  exact (Array.getElem?_eq_some_iff.1 ho).1
theorem ready_off {i : Nat} (h : i ∈ Region.ready md ops l) : l.getD i true = false := (mem_ready.1 h).1
theorem ready_dep {i d : Nat} (h : i ∈ Region.ready md ops l) (hw : Region.waitsFor md ops i d = true) : l.getD d false = true := by
  obtain ⟨_, o, ho, hall⟩ := mem_ready.1 h
  obtain ⟨o', ho', e, he, hb, rfl⟩ := Region.waitsFor_spec hw
  rw [ho] at ho'
  cases ho'
  exact hall e he hb
end
end Go.MagM
/- The statements' own helpers: short, same, fit. -/
namespace Go.Proofs.Ytdfabocecpcmcaa
open Go.RowKit Go.MagM
theorem RMag.zero {w : World} {v : Value} {L : Nat} (h : RMag w v L 0) : ∃ ao c, v = .slice ao 0 c := by
  obtain ⟨ao, n, c, f, rfl, h2, h3, h4, h5, h6⟩ := h
  cases n with
  | zero => exact ⟨ao, c, rfl⟩
  | succ k =>
    exfalso
    have := h6.ge
    have := Bp k
    omega
end Go.Proofs.Ytdfabocecpcmcaa
/- Plain mathematics of decimal digits, the lowest first. No program. -/
namespace Go.MagT
/-- Ten. -/
def B : Nat := 10
theorem B_pos : 0 < B := by unfold B; omega
theorem B_gt1 : 1 < B := by unfold B; omega
theorem B_eq : B = 10 := rfl
theorem Bp (n : Nat) : 0 < B ^ n := Nat.pow_pos B_pos
/-- What the first k words count. -/
def V (f : Nat → Nat) : Nat → Nat
  | 0 => 0
  | k + 1 => V f k + f k * B ^ k
theorem V_zero (f : Nat → Nat) : V f 0 = 0 := rfl
theorem V_succ (f : Nat → Nat) (k : Nat) : V f (k + 1) = V f k + f k * B ^ k := rfl
theorem V_congr {f g : Nat → Nat} : ∀ {n : Nat}, (∀ i, i < n → f i = g i) → V f n = V g n
  | 0, _ => rfl
  | n + 1, h => by rw [V_succ, V_succ, V_congr (fun i hi => h i (by omega)), h n (by omega)]
theorem V_lt {f : Nat → Nat} : ∀ {n : Nat}, (∀ i, i < n → f i < B) → V f n < B ^ n
  | 0, _ => by simp [V]
  | n + 1, h => by
    have h1 := V_lt (n := n) (fun i hi => h i (by omega))
    have h2 : f n + 1 ≤ B := h n (by omega)
    have h3 := Nat.mul_le_mul_right (B ^ n) h2
    rw [V_succ, Nat.pow_succ, Nat.mul_comm (B ^ n) B]
    rw [Nat.add_mul] at h3
    omega
theorem V_split (f : Nat → Nat) (a : Nat) : ∀ b : Nat, V f (a + b) = V f a + B ^ a * V (fun i => f (a + i)) b
  | 0 => by simp [V]
  | b + 1 => by
    rw [← Nat.add_assoc, V_succ, V_split f a b, V_succ, Nat.pow_add, Nat.mul_add]
    have : f (a + b) * (B ^ a * B ^ b) = B ^ a * (f (a + b) * B ^ b) := by rw [Nat.mul_left_comm]
    omega
/-- Words that agree from k on: what differs lies below. -/
theorem V_above {f g : Nat → Nat} {k n : Nat} (hk : k ≤ n) (h : ∀ i, k ≤ i → i < n → f i = g i) : V f n + V g k = V g n + V f k := by
  obtain ⟨d, rfl⟩ : ∃ d, n = k + d := ⟨n - k, by omega⟩
  rw [V_split f k d, V_split g k d, V_congr (f := fun i => f (k + i)) (g := fun i => g (k + i)) (fun i hi => h (k + i) (by omega) (by omega))]
  omega
theorem V_le {f : Nat → Nat} {k n : Nat} (h : k ≤ n) : V f k ≤ V f n := by
  obtain ⟨d, rfl⟩ : ∃ d, n = k + d := ⟨n - k, by omega⟩
  rw [V_split]; omega
theorem V_one (f : Nat → Nat) : V f 1 = f 0 := by simp [V]
theorem V_none {f : Nat → Nat} : ∀ {n : Nat}, (∀ i, i < n → f i = 0) → V f n = 0
  | 0, _ => rfl
  | n + 1, h => by rw [V_succ, V_none (fun i hi => h i (by omega)), h n (by omega)]; simp
theorem V_pos {f : Nat → Nat} {n k : Nat} (hk : k < n) (h : 0 < f k) : 0 < V f n := by
  have h1 := V_le (f := f) (show k + 1 ≤ n by omega)
  have h2 := Nat.mul_pos h (Bp k)
  rw [V_succ] at h1; omega
/-- The word k turned. -/
def upd (f : Nat → Nat) (k x : Nat) : Nat → Nat := fun i => if i = k then x else f i
theorem upd_same (f : Nat → Nat) (k x : Nat) : upd f k x k = x := by simp [upd]
theorem upd_other (f : Nat → Nat) (k x : Nat) {i : Nat} (h : i ≠ k) : upd f k x i = f i := by simp [upd, h]
theorem V_upd_below (f : Nat → Nat) (k x : Nat) {n : Nat} (h : n ≤ k) : V (upd f k x) n = V f n := V_congr (fun i hi => upd_other f k x (by omega))
theorem V_upd_succ (f : Nat → Nat) (k x : Nat) : V (upd f k x) (k + 1) = V f k + x * B ^ k := by rw [V_succ, V_upd_below f k x (Nat.le_refl k), upd_same]
/-- How many words are left, when the 0s at the end are struck. -/
def tlen (f : Nat → Nat) : Nat → Nat
  | 0 => 0
  | k + 1 => if f k = 0 then tlen f k else k + 1
theorem tlen_le (f : Nat → Nat) : ∀ k, tlen f k ≤ k
  | 0 => Nat.le_refl _
  | k + 1 => by have := tlen_le f k; unfold tlen; split <;> omega
theorem tlen_V (f : Nat → Nat) : ∀ k, V f (tlen f k) = V f k
  | 0 => rfl
  | k + 1 => by
    unfold tlen; split
    · rename_i h; rw [tlen_V f k, V_succ, h]; simp
    · rfl
/-- Without a 0 at the end. -/
def Right (f : Nat → Nat) (n : Nat) : Prop := ∀ k, n = k + 1 → f k ≠ 0
theorem tlen_right (f : Nat → Nat) : ∀ k, Right f (tlen f k)
  | 0 => fun _ h => by simp [tlen] at h
  | k + 1 => by
    unfold tlen; split
    · exact tlen_right f k
    · rename_i h; intro j hj; have : j = k := by omega
      rw [this]; exact h
theorem tlen_of_right {f : Nat → Nat} {n : Nat} (h : Right f n) : tlen f n = n := by
  cases n with
  | zero => rfl
  | succ k => unfold tlen; rw [if_neg (h k rfl)]
theorem Right.ge {f : Nat → Nat} {k : Nat} (h : Right f (k + 1)) : B ^ k ≤ V f (k + 1) := by
  have h1 : 1 ≤ f k := by have := h k rfl; omega
  have h2 := Nat.mul_le_mul_right (B ^ k) h1
  rw [V_succ]; omega
/-- Fewer words, both right: less. -/
theorem V_lt_of_len {f g : Nat → Nat} {n m : Nat} (hf : ∀ i, i < n → f i < B) (hg : Right g m) (h : n < m) : V f n < V g m := by
  obtain ⟨k, rfl⟩ : ∃ k, m = k + 1 := ⟨m - 1, by omega⟩
  have h1 := V_lt hf
  have h2 : B ^ n ≤ B ^ k := Nat.pow_le_pow_right B_pos (by omega)
  have h3 := hg.ge
  omega
/-- As many words, the same from k + 1 on, less at k: less. -/
theorem V_lt_at {f g : Nat → Nat} {n k : Nat} (hk : k < n) (hf : ∀ i, i < n → f i < B) (ha : ∀ i, k < i → i < n → f i = g i) (h : f k < g k) : V f n < V g n := by
  have h1 := V_above (f := f) (g := g) (k := k + 1) (n := n) (by omega) (fun i a b => ha i (by omega) b)
  have h2 := V_lt (f := f) (n := k) (fun i hi => hf i (by omega))
  have h3 := Nat.mul_le_mul_right (B ^ k) (show f k + 1 ≤ g k from h)
  rw [Nat.add_mul] at h3
  rw [V_succ, V_succ] at h1
  omega
theorem eq_of_V {f g : Nat → Nat} {n : Nat} (hf : ∀ i, i < n → f i < B) (hg : ∀ i, i < n → g i < B) (h : V f n = V g n) : ∀ i, i < n → f i = g i := by
  induction n with
  | zero => intro i hi; omega
  | succ n ih =>
    have h1 := V_lt (f := f) (n := n) (fun i hi => hf i (by omega))
    have h2 := V_lt (f := g) (n := n) (fun i hi => hg i (by omega))
    rw [V_succ, V_succ] at h
    have hm1 : (V f n + f n * B ^ n) % B ^ n = V f n := by rw [Nat.add_mul_mod_self_right, Nat.mod_eq_of_lt h1]
    have hm2 : (V g n + g n * B ^ n) % B ^ n = V g n := by rw [Nat.add_mul_mod_self_right, Nat.mod_eq_of_lt h2]
    have e1 : V f n = V g n := by rw [← hm1, ← hm2, h]
    have e2 : f n = g n := by
      have : f n * B ^ n = g n * B ^ n := by omega
      exact Nat.eq_of_mul_eq_mul_right (Bp n) this
    intro i hi
    by_cases hn : i = n
    · rw [hn]; exact e2
    · exact ih (fun i hi => hf i (by omega)) (fun i hi => hg i (by omega)) e1 i (by omega)
theorem right_unique {f g : Nat → Nat} {n m : Nat} (hf : ∀ i, i < n → f i < B) (hg : ∀ i, i < m → g i < B) (rf : Right f n) (rg : Right g m) (h : V f n = V g m) :
    n = m ∧ ∀ i, i < n → f i = g i := by
  have e : n = m := by
    rcases Nat.lt_trichotomy n m with a | a | a
    · have := V_lt_of_len hf rg a; omega
    · exact a
    · have := V_lt_of_len hg rf a; omega
  subst e
  exact ⟨rfl, eq_of_V hf hg h⟩
theorem len_le_of_lt {f : Nat → Nat} {n L : Nat} (rf : Right f n) (h : V f n < B ^ L) : n ≤ L := by
  cases n with
  | zero => omega
  | succ k =>
    have h1 := rf.ge
    have h2 : B ^ k < B ^ L := by omega
    have := (Nat.pow_lt_pow_iff_right B_gt1).1 h2
    omega
/-- A sum's step: word and carry. -/
theorem sum_step (x y c : Nat) : (x + y + c) % B + (x + y + c) / B * B = x + y + c := by
  have := Nat.mod_add_div (x + y + c) B
  rw [Nat.mul_comm] at this; exact this
theorem sum_carry {x y c : Nat} (hx : x < B) (hy : y < B) (hc : c ≤ 1) : (x + y + c) / B ≤ 1 := by
  unfold B at *; omega
/-- A difference's step: word and borrow. -/
theorem diff_step {x y b : Nat} (hx : x < B) (hy : y < B) (hb : b ≤ 1) : (x + B - y - b) % B + y + b = x + (if x < y + b then 1 else 0) * B := by
  unfold B at *; split <;> omega
theorem mod_lt (x : Nat) : x % B < B := Nat.mod_lt _ B_pos
theorem add_arith {x y c s c' : Nat} (a b d P : Nat) (hs : s + c' * B = x + y + c) (h : a + c * P = b + d) : a + s * P + c' * (P * B) = b + x * P + (d + y * P) := by
  have h1 : (s + c' * B) * P = (x + y + c) * P := by rw [hs]
  simp only [Nat.add_mul] at h1
  have h2 : c' * (P * B) = c' * B * P := by rw [Nat.mul_assoc, Nat.mul_comm B P]
  omega
/-- A product's step: a word, v times x and what came over: word and what goes over. -/
theorem mac {v x over a : Nat} (hv : v < B) (hx : x < B) (ho : over < B) (ha : a < B) :
    v * x / B + (v * x % B + over + 0) / B + (a + (v * x % B + over + 0) % B + 0) / B < B ∧
    (a + (v * x % B + over + 0) % B + 0) % B + (v * x / B + (v * x % B + over + 0) / B + (a + (v * x % B + over + 0) % B + 0) / B) * B = a + v * x + over := by
  have h1 := Nat.mul_le_mul (show v ≤ B - 1 by omega) (show x ≤ B - 1 by omega)
  generalize v * x = p at *
  unfold B at *
  omega
theorem mac_arith {v x over a s over' : Nat} (F G H P : Nat) (hs : s + over' * B = a + v * x + over) (h : F + over * P = G + H * x) : F + s * P + over' * (P * B) = G + a * P + (H + v * P) * x := by
  have h1 : (s + over' * B) * P = (a + v * x + over) * P := by rw [hs]
  simp only [Nat.add_mul] at h1 ⊢
  have h2 : over' * (P * B) = over' * B * P := by rw [Nat.mul_assoc, Nat.mul_comm B P]
  have h3 : v * P * x = v * x * P := by rw [Nat.mul_assoc, Nat.mul_comm P x, ← Nat.mul_assoc]
  omega
/-- .. taken away. -/
theorem msc {v x over a : Nat} (hv : v < B) (hx : x < B) (ho : over < B) (ha : a < B) :
    v * x / B + (v * x % B + over + 0) / B + (if a < (v * x % B + over + 0) % B + 0 then 1 else 0) < B ∧
    (a + B - (v * x % B + over + 0) % B - 0) % B + v * x + over = a + (v * x / B + (v * x % B + over + 0) / B + (if a < (v * x % B + over + 0) % B + 0 then 1 else 0)) * B := by
  have h1 := Nat.mul_le_mul (show v ≤ B - 1 by omega) (show x ≤ B - 1 by omega)
  generalize v * x = p at *
  unfold B at *
  split <;> omega
theorem msc_arith {v x over a s over' : Nat} (F G H P : Nat) (hs : s + v * x + over = a + over' * B) (h : F + H * x = G + over * P) : F + s * P + (H + v * P) * x = G + a * P + over' * (P * B) := by
  have h1 : (s + v * x + over) * P = (a + over' * B) * P := by rw [hs]
  simp only [Nat.add_mul] at h1 ⊢
  have h2 : over' * (P * B) = over' * B * P := by rw [Nat.mul_assoc, Nat.mul_comm B P]
  have h3 : v * P * x = v * x * P := by rw [Nat.mul_assoc, Nat.mul_comm P x, ← Nat.mul_assoc]
  omega
theorem sub_arith {x y b s b' : Nat} (F G H P : Nat) (hs : s + y + b = x + b' * B) (h : F + H = G + b * P) : F + s * P + (H + y * P) = G + x * P + b' * (P * B) := by
  have h1 : (s + y + b) * P = (x + b' * B) * P := by rw [hs]
  simp only [Nat.add_mul] at h1 ⊢
  have h2 : b' * (P * B) = b' * B * P := by rw [Nat.mul_assoc, Nat.mul_comm B P]
  omega
/-- Words k .. k + m - 1 of f put in place by those of h. -/
def spl (f h : Nat → Nat) (k m : Nat) : Nat → Nat := fun i => if k ≤ i ∧ i < k + m then h (i - k) else f i
theorem spl_in (f h : Nat → Nat) {k m i : Nat} (hi : i < m) : spl f h k m (k + i) = h i := by
  unfold spl; rw [if_pos ⟨by omega, by omega⟩]; congr 1; omega
theorem spl_out (f h : Nat → Nat) {k m i : Nat} (hi : i < k ∨ k + m ≤ i) : spl f h k m i = f i := by unfold spl; rw [if_neg (by omega)]
theorem spl_V (f h : Nat → Nat) (k m : Nat) : V (spl f h k m) (k + m) = V f k + B ^ k * V h m := by
  rw [V_split, V_congr (g := f) (fun i hi => spl_out f h (.inl hi)), V_congr (f := fun i => spl f h k m (k + i)) (g := h) (fun i hi => spl_in f h hi)]
theorem mul_arith {F O H x A P : Nat} (a D Q R : Nat) (h1 : F + O * Q = R + H * x) (h2 : a + P * R = A * H) (hD : D = P * Q) : a + P * F + O * D = (A + x * P) * H := by
  have h3 : P * (F + O * Q) = P * (R + H * x) := by rw [h1]
  rw [Nat.mul_add, Nat.mul_add] at h3
  have h4 : P * (O * Q) = O * D := by rw [hD, Nat.mul_left_comm]
  have h5 : x * P * H = P * (H * x) := by rw [Nat.mul_comm x P, Nat.mul_assoc, Nat.mul_comm x H]
  rw [Nat.add_mul]; omega
end Go.MagT
/- Decimal digits in memory; the document's own Add: what it answers. -/
namespace Go.Proofs.Ytdfabocecpcmcaa
open Go.RowKit
/-- The slice at ao reads as the digits f 0 .. f (n - 1). -/
def DReads (w : World) (ao : Option Addr) (n : Nat) (f : Nat → Nat) : Prop :=
  ∀ i, i < n → ∃ b o, ao = some ⟨b, o, none⟩ ∧ w.cell? ⟨b, o + i, none⟩ = some (.int .i64 ((f i : Nat) : Int)) ∧ f i < MagT.B
theorem DReads.less {w : World} {ao : Option Addr} {n m : Nat} {f : Nat → Nat} (h : DReads w ao n f) (hm : m ≤ n) : DReads w ao m f := fun i hi => h i (by omega)
theorem DReads.lt {w : World} {ao : Option Addr} {n : Nat} {f : Nat → Nat} (h : DReads w ao n f) : ∀ i, i < n → f i < MagT.B := fun i hi => by obtain ⟨_, _, _, _, h3⟩ := h i hi; exact h3
theorem DReads.below {m : Nat} {w w' : World} {bo : Option Addr} {h : Nat → Nat} (hr : DReads w bo m h) (hb : Below w.heap.size w w') : DReads w' bo m h := by
  intro i hi
  obtain ⟨b', o', e, hc, hl⟩ := hr i hi
  exact ⟨b', o', e, by rw [hb.cell (p := ⟨b', o' + i, none⟩) (World.block_lt_of_cell? w _ hc)]; exact hc, hl⟩
/-- A slice of decimal digits, right, at most L of them, that count N. -/
def Dec (w : World) (v : Value) (L N : Nat) : Prop := ∃ ao n c f, v = .slice ao n c ∧ n ≤ c ∧ n ≤ L ∧ DReads w ao n f ∧ MagT.V f n = N ∧ MagT.Right f n
theorem Dec.below {w w' : World} {v : Value} {L N : Nat} (h : Dec w v L N) (hb : Below w.heap.size w w') : Dec w' v L N := by
  obtain ⟨ao, n, c, f, h1, h2, h3, h4, h5⟩ := h; exact ⟨ao, n, c, f, h1, h2, h3, h4.below hb, h5⟩
theorem Dec.more {w : World} {v : Value} {L L' N : Nat} (h : Dec w v L N) (hL : L ≤ L') : Dec w v L' N := by
  obtain ⟨ao, n, c, f, h1, h2, h3, h4, h5⟩ := h; exact ⟨ao, n, c, f, h1, h2, by omega, h4, h5⟩
theorem Dec.short {w : World} {v : Value} {L N K : Nat} (h : Dec w v L N) (hN : N < MagT.B ^ K) : Dec w v K N := by
  obtain ⟨ao, n, c, f, h1, h2, h3, h4, h5, h6⟩ := h
  exact ⟨ao, n, c, f, h1, h2, MagT.len_le_of_lt h6 (by rw [h5]; exact hN), h4, h5, h6⟩
theorem Dec.of_trim {w : World} {ao : Option Addr} {n c : Nat} {f : Nat → Nat} (hr : DReads w ao n f) (hc : n ≤ c) : Dec w (.slice ao (MagT.tlen f n) c) n (MagT.V f n) :=
  ⟨ao, MagT.tlen f n, c, f, rfl, by have := MagT.tlen_le f n; omega, MagT.tlen_le f n, hr.less (MagT.tlen_le f n), MagT.tlen_V f n, MagT.tlen_right f n⟩
theorem info_int : (Try.prog.info? 3).map (fun i => (i.zero, i.size, i.bytes)) = some (some (.int .i64 0), 1, 8) := by kernel_rfl
/-- The digits that have been gathered. -/
def digs (o : Nat → Nat) (k : Nat) : List Value := (List.range k).map fun i => .int .i64 ((o i : Nat) : Int)
theorem digs_succ (o : Nat → Nat) (k : Nat) : digs o (k + 1) = digs o k ++ [.int .i64 ((o k : Nat) : Int)] := by simp [digs, List.range_succ]
theorem digs_congr {o o' : Nat → Nat} {k : Nat} (h : ∀ i, i < k → o i = o' i) : digs o k = digs o' k := by
  unfold digs; apply List.map_congr_left; intro i hi; rw [h i (by simpa using hi)]
theorem digs_at (o : Nat → Nat) (k i : Nat) (h : i < k) : (digs o k)[i]? = some (.int .i64 ((o i : Nat) : Int)) := by simp [digs, List.getElem?_map, List.getElem?_range h]
/-- What is owned reads as digits. -/
theorem DReads.owned {w : World} {base k : Nat} {v : Value} {o : Nat → Nat} (h : w.ownsRow base 3 1 v k (digs o k)) (ho : ∀ i, i < k → o i < MagT.B) : ∃ ao c, v = .slice ao k c ∧ k ≤ c ∧ DReads w ao k o := by
  have h0 := h
  rcases h.2 with ⟨rfl, rfl⟩ | ⟨g, cap, cur, rfl, _, _, hn, _⟩
  · exact ⟨none, 0, rfl, Nat.le_refl _, fun i hi => by omega⟩
  · refine ⟨_, cap, rfl, hn, fun i hi => ⟨g, 0, rfl, ?_, ho i hi⟩⟩
    have := h0.cellAt i (by omega)
    rw [digs_at o k i hi] at this
    rw [Nat.zero_add]; exact this
end Go.Proofs.Ytdfabocecpcmcaa
/- The calls of spot: Area2. -/
namespace Go.Proofs.Ytdfabocecpcmcaa
open Go.RowKit Go.MagM
theorem info_frac : (Try.prog.info? 28).map (fun i => (i.zero, i.size, i.bytes)) = some (some (.agg #[.bool false, .slice none 0 0, .slice none 0 0]), 3, 56) := by kernel_rfl
theorem mod_lt_int (k n : Nat) : ((k : Int) + 1).tmod (n : Int) = (((k + 1) % n : Nat) : Int) := by
  rw [show (k : Int) + 1 = ((k + 1 : Nat) : Int) by omega]; exact (Int.ofNat_tmod _ _).symm
theorem areaQ_terms (l : List (Rat × Rat)) : areaQ l = (termsQ l).foldl (· + ·) 0 := rfl
set_option maxRecDepth 100000 in
set_option maxHeartbeats 16000000 in
theorem sArea2_any (ao : Option Addr) (n c : Nat) (l : List (Rat × Rat)) (L : Nat) (w : World) (hn : l.length = n) (hn9 : n ≤ 90) (hL : L ≤ 100000) (hsp : Spots w ao L l) :
    Calls Try.prog 17 #[.slice ao n c] w fun e w' => AnsF w w' e (1 + n * (((L + L + 2) + (L + L + 2) + 2) + 2)) (areaQ l) := by
  have hB_0 := Below.refl w.heap.size w
  have SP := Lib.hid hsp; clear hsp
  obtain ⟨i0, hi, hz0, hz1, hz2⟩ := info_parts info_frac
  have HI := Lib.hid hi; have HZ0 := Lib.hid hz0; have HZ1 := Lib.hid hz1; have HZ2 := Lib.hid hz2
  clear hi hz0 hz1 hz2
  obtain ⟨w1, hw1, pr_0, hb1, hs1⟩ := new_box w (w.heap.size) rfl [.bool false, .slice none 0 0, .slice none 0 0] 28
  have hb1' : Below w.heap.size w w1 := hb1.mono (by omega)
  clear hb1
  have hB_1 := hB_0.trans (hb1'.mono hB_0.size)
  clear hb1' hB_0
  go_enter Try.func17, Try.ntmps17
  go_wp2
  go_loopw [3, 9] (fun pv iv wr => ∃ k : Nat, ∃ xs : List Value, ∃ u : Value, k ≤ n ∧ iv = .int .i64 k ∧ u = pv ∧ RowN wr (w.heap.size + 1) 28 3 u k xs ∧ Fr wr ((L + L + 2) + (L + L + 2) + 2) xs ((termsQ l).take k) ∧ Below w.heap.size w wr ∧ Box wr w.heap.size [.bool false, .slice none 0 0, .slice none 0 0]) (fun _ iv _ => n - (intOf iv).toNat)
  case atStart => exact ⟨0, [], _, Nat.zero_le _, rfl, rfl, RowN.nil _ _ _ _, Fr.nil _ _, hB_1, pr_0⟩
  case round =>
    obtain ⟨k, xs, u, hk, rfl, hu, row_0, fr_0, hB_0, pr_0⟩ := hrel
    subst hu
    by_cases hlt : k < n
    · obtain ⟨x, y, hlk⟩ : ∃ x y, l[k]? = some (x, y) := ⟨_, _, List.getElem?_eq_getElem (by omega)⟩
      obtain ⟨j, hj⟩ : ∃ j, (k + 1) % n = j := ⟨_, rfl⟩
      have hjn : j < n := by rw [← hj]; exact Nat.mod_lt _ (by omega)
      obtain ⟨x', y', hlj⟩ : ∃ x' y', l[j]? = some (x', y') := ⟨_, _, List.getElem?_eq_getElem (by omega)⟩
      obtain ⟨b, o, m1x, o1x, n1x, c1x, p1x, k1x, d1x, m1y, o1y, n1y, c1y, p1y, k1y, d1y, hao, c0, c1, c2, c3, c4, c5, f1x_0, f1y_0⟩ := (SP.out.below hB_0) k x y hlk
      obtain ⟨b', o', m2x, o2x, n2x, c2x, p2x, k2x, d2x, m2y, o2y, n2y, c2y, p2y, k2y, d2y, hao', d0, d1, d2, d3, d4, d5, f2x_0, f2y_0⟩ := (SP.out.below hB_0) j x' y' hlj
      subst hao
      simp at hao'
      obtain ⟨rfl, rfl⟩ := hao'
      have hmod : ((k : Int) + 1).tmod (n : Int) = (j : Int) := by rw [mod_lt_int k n, hj]
      have hn0 : ((n : Int) == 0) = false := by simp; omega
      have hT : termQ l k = x * y' - y * x' := termQ_at hlk (by rw [hn, hj]; exact hlj)
      have HT := Lib.hid hT; clear hT hlk hlj hj
      have hxl : xs.length = ((termsQ l).take k).length * 3 := by rw [row_0.1, List.length_take, termsQ_len]; congr 1; omega
      have HXL := Lib.hid hxl; clear hxl
      have hrl := row_0.lt
      have dd_0 : At6 wr b (o + j * 6) _ _ _ _ _ _ := ⟨d0, d1, d2, d3, d4, d5⟩
      clear d0 d1 d2 d3 d4 d5
      have hl1pr := pr_0.lt
      have hl1B := hB_0.size
      obtain ⟨w2, hw2, ps_0, hb2, hs2⟩ := new_box wr (wr.heap.size) rfl [.bool m1x, .slice o1x n1x c1x, .slice p1x k1x d1x, .bool m1y, .slice o1y n1y c1y, .slice p1y k1y d1y] 42
      have hb2' : Below wr.heap.size wr w2 := hb2.mono (by omega)
      clear hb2
      have hB_1 := hB_0.trans (hb2'.mono hB_0.size)
      have pr_1 := pr_0.below hb2'
      have row_1 := row_0.below hb2'
      have fr_1 := fr_0.below hb2'
      have f1x_1 := f1x_0.below hb2'
      have f1y_1 := f1y_0.below hb2'
      have f2x_1 := f2x_0.below hb2'
      have f2y_1 := f2y_0.below hb2'
      have dd_1 := dd_0.below hb2'
      clear hb2' hB_0 pr_0 row_0 fr_0 f1x_0 f1y_0 f2x_0 f2y_0 dd_0
      obtain ⟨d0, d1, d2, d3, d4, d5⟩ := dd_1
      have hl2pr := pr_1.lt
      have hl2ps := ps_0.lt
      have hl2B := hB_1.size
      obtain ⟨w3, hw3, pn_0, hb3, hs3⟩ := new_box w2 (wr.heap.size + 1) hs2 [.bool m2x, .slice o2x n2x c2x, .slice p2x k2x d2x, .bool m2y, .slice o2y n2y c2y, .slice p2y k2y d2y] 42
      have hb3' : Below w2.heap.size w2 w3 := hb3.mono (by omega)
      clear hb3
      have hB_2 := hB_1.trans (hb3'.mono hB_1.size)
      have pr_2 := pr_1.below hb3'
      have row_2 := row_1.below hb3'
      have fr_2 := fr_1.below hb3'
      have f1x_2 := f1x_1.below hb3'
      have f1y_2 := f1y_1.below hb3'
      have f2x_2 := f2x_1.below hb3'
      have f2y_2 := f2y_1.below hb3'
      have ps_1 := ps_0.below hb3'
      clear hb3' hB_1 pr_1 row_1 fr_1 f1x_1 f1y_1 f2x_1 f2y_1 ps_0
      go_wp2
      try rw [hw2]
      try rw [hw3]
      clear c0 c1 c2 c3 c4 c5 d0 d1 d2 d3 d4 d5
      have hWq_0 := Below.refl w3.heap.size w3
      have hsq : w.heap.size ≤ w3.heap.size := hB_2.size
      have hlqpr := pr_2.lt
      have hlqps := ps_1.lt
      have hlqpn := pn_0.lt
      have hB_3 := hB_2.drew'
      have pr_3 := pr_2.drew
      have row_3 := row_2.drew
      have fr_3 := fr_2.drew
      have f1x_3 := f1x_2.drew
      have f1y_3 := f1y_2.drew
      have f2x_3 := f2x_2.drew
      have f2y_3 := f2y_2.drew
      have ps_2 := ps_1.drew
      have pn_1 := pn_0.drew
      have hWq_1 := hWq_0.drew'
      clear hB_2 pr_2 row_2 fr_2 f1x_2 f1y_2 f2x_2 f2y_2 ps_1 pn_0 hWq_0
      obtain ⟨FFq, hFFq⟩ : ∃ F : World → Prop, ∀ w', F w' ↔ (Below w.heap.size w w' ∧ Box w' (w.heap.size) [.bool false, .slice none 0 0, .slice none 0 0] ∧ RowN w' (w.heap.size + 1) 28 3 u k xs ∧ Fr w' ((L + L + 2) + (L + L + 2) + 2) xs ((termsQ l).take k) ∧ FQ w' (.agg #[.bool m1x, .slice o1x n1x c1x, .slice p1x k1x d1x]) L (x) ∧ FQ w' (.agg #[.bool m1y, .slice o1y n1y c1y, .slice p1y k1y d1y]) L (y) ∧ FQ w' (.agg #[.bool m2x, .slice o2x n2x c2x, .slice p2x k2x d2x]) L (x') ∧ FQ w' (.agg #[.bool m2y, .slice o2y n2y c2y, .slice p2y k2y d2y]) L (y') ∧ Box w' (wr.heap.size) [.bool m1x, .slice o1x n1x c1x, .slice p1x k1x d1x, .bool m1y, .slice o1y n1y c1y, .slice p1y k1y d1y] ∧ Box w' (wr.heap.size + 1) [.bool m2x, .slice o2x n2x c2x, .slice p2x k2x d2x, .bool m2y, .slice o2y n2y c2y, .slice p2y k2y d2y] ∧ Below w3.heap.size w3 w') := ⟨_, fun _ => Iff.rfl⟩
      have cFq : ∀ {w' w'' : World}, FFq w' → Below w'.heap.size w' w'' → FFq w'' := by
        intro w' w'' h hb
        obtain ⟨y0, y1, y2, y3, y4, y5, y6, y7, y8, y9, y10⟩ := (hFFq _).1 h
        exact (hFFq _).2 ⟨y0.trans (hb.mono y0.size), y1.below hb, y2.below hb, y3.below hb, y4.below hb, y5.below hb, y6.below hb, y7.below hb, y8.below hb, y9.below hb, y10.trans (hb.mono y10.size)⟩
      have mFq : ∀ {w' : World}, FFq w' → w3.heap.size ≤ w'.heap.size := by
        intro w' h
        obtain ⟨y0, y1, y2, y3, y4, y5, y6, y7, y8, y9, y10⟩ := (hFFq _).1 h
        exact y10.size
      have sFq : ∀ {w' : World}, FFq w' → (w'.cell? ⟨wr.heap.size, 0, none⟩ = some (.bool m1x) ∧ w'.cell? ⟨wr.heap.size, 1, none⟩ = some (.slice o1x n1x c1x) ∧ w'.cell? ⟨wr.heap.size, 2, none⟩ = some (.slice p1x k1x d1x) ∧ w'.cell? ⟨wr.heap.size, 3, none⟩ = some (.bool m1y) ∧ w'.cell? ⟨wr.heap.size, 4, none⟩ = some (.slice o1y n1y c1y) ∧ w'.cell? ⟨wr.heap.size, 5, none⟩ = some (.slice p1y k1y d1y) ∧ w'.cell? ⟨wr.heap.size + 1, 0, none⟩ = some (.bool m2x) ∧ w'.cell? ⟨wr.heap.size + 1, 1, none⟩ = some (.slice o2x n2x c2x) ∧ w'.cell? ⟨wr.heap.size + 1, 2, none⟩ = some (.slice p2x k2x d2x) ∧ w'.cell? ⟨wr.heap.size + 1, 3, none⟩ = some (.bool m2y) ∧ w'.cell? ⟨wr.heap.size + 1, 4, none⟩ = some (.slice o2y n2y c2y) ∧ w'.cell? ⟨wr.heap.size + 1, 5, none⟩ = some (.slice p2y k2y d2y)) := by
        intro w' h
        obtain ⟨y0, y1, y2, y3, y4, y5, y6, y7, y8, y9, y10⟩ := (hFFq _).1 h
        exact ⟨y8.c0, y8.c1, y8.c2, y8.c3, y8.c4, y8.c5, y9.c0, y9.c1, y9.c2, y9.c3, y9.c4, y9.c5⟩
      have zF : FFq w3.drew := (hFFq _).2 ⟨hB_3, pr_3, row_3, fr_3, f1x_3, f1y_3, f2x_3, f2y_3, ps_2, pn_1, hWq_1⟩
      clear hB_3 pr_3 row_3 fr_3 f1x_3 f1y_3 f2x_3 f2y_3 ps_2 pn_1 hWq_1
      refine wp_region_noPanic ?_
      refine wp_region_held_drew (S := fun w' => w'.cell? ⟨wr.heap.size, 0, none⟩ = some (.bool m1x) ∧ w'.cell? ⟨wr.heap.size, 1, none⟩ = some (.slice o1x n1x c1x) ∧ w'.cell? ⟨wr.heap.size, 2, none⟩ = some (.slice p1x k1x d1x) ∧ w'.cell? ⟨wr.heap.size, 3, none⟩ = some (.bool m1y) ∧ w'.cell? ⟨wr.heap.size, 4, none⟩ = some (.slice o1y n1y c1y) ∧ w'.cell? ⟨wr.heap.size, 5, none⟩ = some (.slice p1y k1y d1y) ∧ w'.cell? ⟨wr.heap.size + 1, 0, none⟩ = some (.bool m2x) ∧ w'.cell? ⟨wr.heap.size + 1, 1, none⟩ = some (.slice o2x n2x c2x) ∧ w'.cell? ⟨wr.heap.size + 1, 2, none⟩ = some (.slice p2x k2x d2x) ∧ w'.cell? ⟨wr.heap.size + 1, 3, none⟩ = some (.bool m2y) ∧ w'.cell? ⟨wr.heap.size + 1, 4, none⟩ = some (.slice o2y n2y c2y) ∧ w'.cell? ⟨wr.heap.size + 1, 5, none⟩ = some (.slice p2y k2y d2y)) (by kernel_rfl) (sFq zF) (fun hHeld => ?_)
      refine reg_take 0 ?_ ?_ ?_ (by kernel_rfl) (by kernel_rfl) (by kernel_rfl) (fun _ _ _ h => h) ?_ ?_ (by assumption) ?_
      rotate_left 2
      · simp only [List.getElem?_toArray, List.getElem?_cons_zero]; exact rfl
      · rfl
      · intro w hSw; (try dsimp only at hSw); go_simp; try with_reducible rfl
      try simp only [Act.put]
      try simp only [List.setIfInBounds_toArray, List.set_cons_zero, List.set_cons_succ]
      refine reg_take 1 ?_ ?_ ?_ (by kernel_rfl) (by kernel_rfl) (by kernel_rfl) (fun _ _ _ h => h) ?_ ?_ (by assumption) ?_
      rotate_left 2
      · simp only [List.getElem?_toArray, List.getElem?_cons_succ, List.getElem?_cons_zero]; exact rfl
      · rfl
      · intro w hSw; (try dsimp only at hSw); go_simp; try with_reducible rfl
      try simp only [Act.put]
      try simp only [List.setIfInBounds_toArray, List.set_cons_zero, List.set_cons_succ]
      refine reg_take 2 ?_ ?_ ?_ (by kernel_rfl) (by kernel_rfl) (by kernel_rfl) (fun _ _ _ h => h) ?_ ?_ (by assumption) ?_
      rotate_left 2
      · simp only [List.getElem?_toArray, List.getElem?_cons_succ, List.getElem?_cons_zero]; exact rfl
      · rfl
      · intro w hSw; (try dsimp only at hSw); go_simp; try with_reducible rfl
      try simp only [Act.put]
      try simp only [List.setIfInBounds_toArray, List.set_cons_zero, List.set_cons_succ]
      refine reg_take 3 ?_ ?_ ?_ (by kernel_rfl) (by kernel_rfl) (by kernel_rfl) (fun _ _ _ h => h) ?_ ?_ (by assumption) ?_
      rotate_left 2
      · simp only [List.getElem?_toArray, List.getElem?_cons_succ, List.getElem?_cons_zero]; exact rfl
      · rfl
      · intro w hSw; (try dsimp only at hSw); go_simp; try with_reducible rfl
      try simp only [Act.put]
      try simp only [List.setIfInBounds_toArray, List.set_cons_zero, List.set_cons_succ]
      refine reg_take 4 ?_ ?_ ?_ (by kernel_rfl) (by kernel_rfl) (by kernel_rfl) (fun _ _ _ h => h) ?_ ?_ (by assumption) ?_
      rotate_left 2
      · simp only [List.getElem?_toArray, List.getElem?_cons_succ, List.getElem?_cons_zero]; exact rfl
      · rfl
      · intro w hSw; (try dsimp only at hSw); go_simp; try with_reducible rfl
      try simp only [Act.put]
      try simp only [List.setIfInBounds_toArray, List.set_cons_zero, List.set_cons_succ]
      refine reg_take 6 ?_ ?_ ?_ (by kernel_rfl) (by kernel_rfl) (by kernel_rfl) (fun _ _ _ h => h) ?_ ?_ (by assumption) ?_
      rotate_left 2
      · simp only [List.getElem?_toArray, List.getElem?_cons_succ, List.getElem?_cons_zero]; exact rfl
      · rfl
      · intro w hSw; (try dsimp only at hSw); go_simp; try with_reducible rfl
      try simp only [Act.put]
      try simp only [List.setIfInBounds_toArray, List.set_cons_zero, List.set_cons_succ]
      refine reg_take 7 ?_ ?_ ?_ (by kernel_rfl) (by kernel_rfl) (by kernel_rfl) (fun _ _ _ h => h) ?_ ?_ (by assumption) ?_
      rotate_left 2
      · simp only [List.getElem?_toArray, List.getElem?_cons_succ, List.getElem?_cons_zero]; exact rfl
      · rfl
      · intro w hSw; (try dsimp only at hSw); go_simp; try with_reducible rfl
      try simp only [Act.put]
      try simp only [List.setIfInBounds_toArray, List.set_cons_zero, List.set_cons_succ]
      refine reg_take 8 ?_ ?_ ?_ (by kernel_rfl) (by kernel_rfl) (by kernel_rfl) (fun _ _ _ h => h) ?_ ?_ (by assumption) ?_
      rotate_left 2
      · simp only [List.getElem?_toArray, List.getElem?_cons_succ, List.getElem?_cons_zero]; exact rfl
      · rfl
      · intro w hSw; (try dsimp only at hSw); go_simp; try with_reducible rfl
      try simp only [Act.put]
      try simp only [List.setIfInBounds_toArray, List.set_cons_zero, List.set_cons_succ]
      refine reg_take 9 ?_ ?_ ?_ (by kernel_rfl) (by kernel_rfl) (by kernel_rfl) (fun _ _ _ h => h) ?_ ?_ (by assumption) ?_
      rotate_left 2
      · simp only [List.getElem?_toArray, List.getElem?_cons_succ, List.getElem?_cons_zero]; exact rfl
      · rfl
      · intro w hSw; (try dsimp only at hSw); go_simp; try with_reducible rfl
      try simp only [Act.put]
      try simp only [List.setIfInBounds_toArray, List.set_cons_zero, List.set_cons_succ]
      refine reg_grab (fun WWq aq hWW hAA => ?_)
      rw [hWW]
      have HAq := Lib.hid hAA; clear hWW hAA hHeld
      obtain ⟨IVq, hIVq⟩ : ∃ IV : Array Bool → Act → World → Prop, ∀ l a w', IV l a w' ↔ ∃ (lb5 lb10 lb11 lb12 : Bool) (lv5 lv10 lv11 lv12 : Value) (m3 : Bool) (o3 : Option Addr) (n3 : Nat) (c3 : Nat) (p3 : Option Addr) (k3 : Nat) (d3 : Nat) (m4 : Bool) (o4 : Option Addr) (n4 : Nat) (c4 : Nat) (p4 : Option Addr) (k4 : Nat) (d4 : Nat) (m5 : Bool) (o5 : Option Addr) (n5 : Nat) (c5 : Nat) (p5 : Option Addr) (k5 : Nat) (d5 : Nat) (gpq : Nat), l = #[true, true, true, true, true, lb5, true, true, true, true, lb10, lb11, lb12, false, false] ∧ a = ((((aq.put (some 27) lv5).put (some 32) lv10).put (some 33) lv11).put (some 34) lv12) ∧ FFq w' ∧ (lb5 = true → lv5 = .agg #[.bool m3, .slice o3 n3 c3, .slice p3 k3 d3] ∧ RF w' (.agg #[.bool m3, .slice o3 n3 c3, .slice p3 k3 d3]) (L + L + 2) (x * y')) ∧ (lb10 = true → lv10 = .agg #[.bool m4, .slice o4 n4 c4, .slice p4 k4 d4] ∧ RF w' (.agg #[.bool m4, .slice o4 n4 c4, .slice p4 k4 d4]) (L + L + 2) (y * x')) ∧ (lb11 = true → lv11 = .agg #[.bool m5, .slice o5 n5 c5, .slice p5 k5 d5] ∧ RF w' (.agg #[.bool m5, .slice o5 n5 c5, .slice p5 k5 d5]) ((L + L + 2) + (L + L + 2) + 2) (x * y' - y * x')) ∧ (lb12 = true → lv12 = .slice (some ⟨gpq, 0, none⟩) 1 1 ∧ Box w' gpq [.bool m5, .slice o5 n5 c5, .slice p5 k5 d5] ∧ w3.heap.size ≤ gpq) ∧ (lb10 = true → lb5 = true) ∧ (lb11 = true → lb5 = true) ∧ (lb11 = true → lb10 = true) ∧ (lb12 = true → lb11 = true) := ⟨_, fun _ _ _ => Iff.rfl⟩
      refine wpAnyH_until IVq ?_ _ _ _ _ ((hIVq _ _ _).2 ⟨false, false, false, false, (aq.tmps.getD 27 undef), (aq.tmps.getD 32 undef), (aq.tmps.getD 33 undef), (aq.tmps.getD 34 undef), false, none, 0, 0, none, 0, 0, false, none, 0, 0, none, 0, 0, false, none, 0, 0, none, 0, 0, 0, rfl, (by simp only [put_same]), zF, (fun h => by cases h), (fun h => by cases h), (fun h => by cases h), (fun h => by cases h), (fun h => by cases h), (fun h => by cases h), (fun h => by cases h), (fun h => by cases h)⟩) (by kernel_rfl)
      clear zF
      intro ll aa w4 hI
      obtain ⟨lb5, lb10, lb11, lb12, lv5, lv10, lv11, lv12, m3, o3, n3, c3, p3, k3, d3, m4, o4, n4, c4, p4, k4, d4, m5, o5, n5, c5, p5, k5, d5, gpq, rfl, rfl, zF, F5, F10, F11, F12, dp10_5, dp11_5, dp11_10, dp12_11⟩ := (hIVq _ _ _).1 hI
      clear hI
      by_cases hL : lb5 = true ∧ lb10 = true ∧ lb11 = true ∧ lb12 = true
      · left
        obtain ⟨rfl, rfl, rfl, rfl⟩ := hL
        obtain ⟨rfl, f3_0⟩ := F5 rfl
        clear F5
        obtain ⟨rfl, f4_0⟩ := F10 rfl
        clear F10
        obtain ⟨rfl, f5_0⟩ := F11 rfl
        clear F11
        obtain ⟨rfl, pq_0, hgpq⟩ := F12 rfl
        clear F12
        clear dp10_5 dp11_5 dp11_10 dp12_11
        show wpAnyH _ _ _ _ _ 2 _ _ _
        rw [HAq.out]
        try simp only [Act.put]
        try simp only [List.setIfInBounds_toArray, List.set_cons_zero, List.set_cons_succ]
        obtain ⟨hB_0, pr_0, row_0, fr_0, f1x_0, f1y_0, f2x_0, f2y_0, ps_0, pn_0, hWq_0⟩ := (hFFq _).1 zF
        clear zF
        clear hWq_0
        refine reg_call 13 ?_ (by kernel_rfl) ?_ (fun K hK => ?_)
        rotate_left 1
        · simp only [List.getElem?_toArray, List.getElem?_cons_succ, List.getElem?_cons_zero]; exact rfl
        refine wanted_go rfl ?_
        have hzpr := pr_0.lt
        have hzps := ps_0.lt
        have hzpn := pn_0.lt
        have hzpq := pq_0.lt
        obtain ⟨pv1, wa, hrun, rown, hgrow, hkept⟩ := run_append_row (P := Try.prog) w4 (w.heap.size + 1) 63 63 28 i0 (.agg #[.bool false, .slice none 0 0, .slice none 0 0]) 3 56 (by kernel_rfl) HI.out HZ0.out HZ1.out HZ2.out rfl (noWord3 _ _ _ _ _ _ _) u k xs row_0 ⟨gpq, 0, none⟩ 1 1 [.bool m5, .slice o5 n5 c5, .slice p5 k5 d5] (by omega) rfl pq_0.news (by intro u hu; simp at hu; rcases hu with rfl | rfl | rfl <;> rfl) (noWord3 _ _ _ _ _ _ _) (by unfold maxLen; omega) (by omega) (by have := hB_0.size; omega)
        refine wp_append_row _ _ 63 rfl rfl rfl hrun ?_
        clear row_0 hrun
        have hB_1 := hB_0.grown hgrow (by have := hB_0.size; omega) (fun k hk => by have := hrl k hk; omega)
        have pr_1 := pr_0.grown hgrow (fun e => by have := hrl _ e; omega) pr_0.lt
        have fr_1 := fr_0.kept hkept
        have f1x_1 := f1x_0.kept hkept
        have f1y_1 := f1y_0.kept hkept
        have f2x_1 := f2x_0.kept hkept
        have f2y_1 := f2y_0.kept hkept
        have ps_1 := ps_0.grown hgrow (fun e => by have := hrl _ e; omega) ps_0.lt
        have pn_1 := pn_0.grown hgrow (fun e => by have := hrl _ e; omega) pn_0.lt
        have f3_1 := f3_0.kept hkept
        have f4_1 := f4_0.kept hkept
        have f5_1 := f5_0.kept hkept
        have pq_1 := pq_0.grown hgrow (fun e => by have := hrl _ e; omega) pq_0.lt
        clear hB_0 pr_0 fr_0 f1x_0 f1y_0 f2x_0 f2y_0 ps_0 pn_0 f3_0 f4_0 f5_0 pq_0
        clear hgrow hkept
        refine hK.out _ _ ⟨ps_1.c0, ps_1.c1, ps_1.c2, ps_1.c3, ps_1.c4, ps_1.c5, pn_1.c0, pn_1.c1, pn_1.c2, pn_1.c3, pn_1.c4, pn_1.c5⟩ (fun hHeld => ?_)
        clear hK K
        try simp only [Act.put]
        try simp only [List.setIfInBounds_toArray, List.set_cons_zero, List.set_cons_succ]
        refine reg_take 14 ?_ ?_ ?_ (by kernel_rfl) (by kernel_rfl) (by kernel_rfl) (fun _ _ _ h => h) ?_ ?_ (by assumption) ?_
        rotate_left 2
        · simp only [List.getElem?_toArray, List.getElem?_cons_succ, List.getElem?_cons_zero]; exact rfl
        · rfl
        · intro w hSw; (try dsimp only at hSw); go_simp; try with_reducible rfl
        try simp only [Act.put]
        try simp only [List.setIfInBounds_toArray, List.set_cons_zero, List.set_cons_succ]
        refine wpAnyH_done (by kernel_rfl) ?_ _
        refine NoPanic.normal ?_
        go_wp2
        refine ⟨⟨k + 1, _, _, by omega, by go_num, rfl, rown, ?_, hB_1, pr_1⟩, by simp [intOf]; omega⟩
        rw [termsQ_take (by omega), HT.out]
        exact Fr.snoc fr_1 HXL.out f5_1
      · right
        refine ⟨?_, fun i hi => ?_⟩
        · clear zF F5 F10 F11 F12
          cases lb5
          · exact ready_of 5 _ rfl rfl (by kernel_rfl)
          cases lb10
          · exact ready_of 10 _ rfl rfl (by kernel_rfl)
          cases lb11
          · exact ready_of 11 _ rfl rfl (by kernel_rfl)
          cases lb12
          · exact ready_of 12 _ rfl rfl (by kernel_rfl)
          exact absurd ⟨rfl, rfl, rfl, rfl⟩ hL
        have hd : (lb5 = false ∧ i = 5) ∨ (lb10 = false ∧ lb5 = true ∧ i = 10) ∨ (lb11 = false ∧ lb5 = true ∧ lb10 = true ∧ i = 11) ∨ (lb12 = false ∧ lb11 = true ∧ i = 12) := by
          have hin := ready_lt hi
          obtain rfl | rfl | rfl | rfl | rfl | rfl | rfl | rfl | rfl | rfl | rfl | rfl | rfl | rfl | rfl : i = 0 ∨ i = 1 ∨ i = 2 ∨ i = 3 ∨ i = 4 ∨ i = 5 ∨ i = 6 ∨ i = 7 ∨ i = 8 ∨ i = 9 ∨ i = 10 ∨ i = 11 ∨ i = 12 ∨ i = 13 ∨ i = 14 := by have hin' : i < 15 := hin; omega
          · exact absurd (ready_off hi) (fun h => Bool.noConfusion (show true = false from h))
          · exact absurd (ready_off hi) (fun h => Bool.noConfusion (show true = false from h))
          · exact absurd (ready_off hi) (fun h => Bool.noConfusion (show true = false from h))
          · exact absurd (ready_off hi) (fun h => Bool.noConfusion (show true = false from h))
          · exact absurd (ready_off hi) (fun h => Bool.noConfusion (show true = false from h))
          · exact .inl ⟨ready_off hi, rfl⟩
          · exact absurd (ready_off hi) (fun h => Bool.noConfusion (show true = false from h))
          · exact absurd (ready_off hi) (fun h => Bool.noConfusion (show true = false from h))
          · exact absurd (ready_off hi) (fun h => Bool.noConfusion (show true = false from h))
          · exact absurd (ready_off hi) (fun h => Bool.noConfusion (show true = false from h))
          · exact .inr (.inl ⟨ready_off hi, ready_dep (d := 5) hi (by kernel_rfl), rfl⟩)
          · exact .inr (.inr (.inl ⟨ready_off hi, ready_dep (d := 5) hi (by kernel_rfl), ready_dep (d := 10) hi (by kernel_rfl), rfl⟩))
          · exact .inr (.inr (.inr (⟨ready_off hi, ready_dep (d := 11) hi (by kernel_rfl), rfl⟩)))
          · have k12 : lb12 = true := ready_dep (d := 12) hi (by kernel_rfl); have k11 : lb11 = true := ready_dep (d := 11) hi (by kernel_rfl)
            have k5 := dp11_5 k11
            have k10 := dp11_10 k11
            exact absurd ⟨k5, k10, k11, k12⟩ hL
          · exact absurd (ready_dep (d := 13) hi (by kernel_rfl)) (fun h => Bool.noConfusion (show false = true from h))
        clear hi hL
        rcases hd with ⟨rfl, rfl⟩ | ⟨rfl, rfl, rfl⟩ | ⟨rfl, rfl, rfl, rfl⟩ | ⟨rfl, rfl, rfl⟩
        · obtain ⟨-, -, -, -, f1x_0, -, -, f2y_0, -, -, -⟩ := (hFFq _).1 zF
          refine step_of 5 ?_ ?_ (fun K hK => ?_)
          rotate_left 1
          · simp only [List.getElem?_toArray, List.getElem?_cons_succ, List.getElem?_cons_zero]; exact rfl
          rw [HAq.out]
          try simp only [Act.put]
          try simp only [List.setIfInBounds_toArray, List.set_cons_zero, List.set_cons_succ]
          go_simp
          refine (qMul _ _ L L x y' _ (by omega) (by omega) f1x_0 f2y_0).mono ?_
          rintro e w5 ⟨m3, o3, n3, c3, p3, k3, d3, rfl, f3_0, hb⟩
          go_wp2_with fail
          refine hK.out _ _ (sFq (cFq zF hb)) ?_
          exact (hIVq _ _ _).2 ⟨true, lb10, lb11, lb12, (.agg #[.bool m3, .slice o3 n3 c3, .slice p3 k3 d3]), lv10, lv11, lv12, m3, o3, n3, c3, p3, k3, d3, m4, o4, n4, c4, p4, k4, d4, m5, o5, n5, c5, p5, k5, d5, gpq, rfl, (by simp only [HAq.out, Act.put, List.setIfInBounds_toArray, List.set_cons_zero, List.set_cons_succ]), (cFq zF hb), (fun _ => ⟨rfl, f3_0⟩), (fun h => absurd (dp10_5 h) (by decide)), (fun h => absurd (dp11_5 h) (by decide)), (fun h => absurd (dp11_5 (dp12_11 h)) (by decide)), (fun _ => rfl), (fun _ => rfl), dp11_10, dp12_11⟩
        · obtain ⟨rfl, f3_0⟩ := F5 rfl
          clear F5
          obtain ⟨-, -, -, -, -, f1y_0, f2x_0, -, -, -, -⟩ := (hFFq _).1 zF
          refine step_of 10 ?_ ?_ (fun K hK => ?_)
          rotate_left 1
          · simp only [List.getElem?_toArray, List.getElem?_cons_succ, List.getElem?_cons_zero]; exact rfl
          rw [HAq.out]
          try simp only [Act.put]
          try simp only [List.setIfInBounds_toArray, List.set_cons_zero, List.set_cons_succ]
          go_simp
          refine (qMul _ _ L L y x' _ (by omega) (by omega) f1y_0 f2x_0).mono ?_
          rintro e w6 ⟨m4, o4, n4, c4, p4, k4, d4, rfl, f4_0, hb⟩
          go_wp2_with fail
          refine hK.out _ _ (sFq (cFq zF hb)) ?_
          exact (hIVq _ _ _).2 ⟨true, true, lb11, lb12, _, (.agg #[.bool m4, .slice o4 n4 c4, .slice p4 k4 d4]), lv11, lv12, m3, o3, n3, c3, p3, k3, d3, m4, o4, n4, c4, p4, k4, d4, m5, o5, n5, c5, p5, k5, d5, gpq, rfl, (by simp only [HAq.out, Act.put, List.setIfInBounds_toArray, List.set_cons_zero, List.set_cons_succ]), (cFq zF hb), (fun _ => ⟨rfl, f3_0.below hb⟩), (fun _ => ⟨rfl, f4_0⟩), (fun h => absurd (dp11_10 h) (by decide)), (fun h => absurd (dp11_10 (dp12_11 h)) (by decide)), (fun _ => rfl), (fun _ => rfl), (fun _ => rfl), dp12_11⟩
        · obtain ⟨rfl, f3_0⟩ := F5 rfl
          clear F5
          obtain ⟨rfl, f4_0⟩ := F10 rfl
          clear F10
          refine step_of 11 ?_ ?_ (fun K hK => ?_)
          rotate_left 1
          · simp only [List.getElem?_toArray, List.getElem?_cons_succ, List.getElem?_cons_zero]; exact rfl
          rw [HAq.out]
          try simp only [Act.put]
          try simp only [List.setIfInBounds_toArray, List.set_cons_zero, List.set_cons_succ]
          go_simp
          refine (qSub _ _ (L + L + 2) (L + L + 2) _ _ _ (by omega) (by omega) f3_0.q f4_0.q).mono ?_
          rintro e w7 ⟨m5, o5, n5, c5, p5, k5, d5, rfl, f5_0, hb⟩
          go_wp2_with fail
          refine hK.out _ _ (sFq (cFq zF hb)) ?_
          exact (hIVq _ _ _).2 ⟨true, true, true, lb12, _, _, (.agg #[.bool m5, .slice o5 n5 c5, .slice p5 k5 d5]), lv12, m3, o3, n3, c3, p3, k3, d3, m4, o4, n4, c4, p4, k4, d4, m5, o5, n5, c5, p5, k5, d5, gpq, rfl, (by simp only [HAq.out, Act.put, List.setIfInBounds_toArray, List.set_cons_zero, List.set_cons_succ]), (cFq zF hb), (fun _ => ⟨rfl, f3_0.below hb⟩), (fun _ => ⟨rfl, f4_0.below hb⟩), (fun _ => ⟨rfl, f5_0⟩), (fun h => absurd (dp12_11 h) (by decide)), (fun _ => rfl), (fun _ => rfl), (fun _ => rfl), (fun _ => rfl)⟩
        · obtain rfl := dp11_5 rfl
          obtain rfl := dp11_10 rfl
          obtain ⟨rfl, f3_0⟩ := F5 rfl
          clear F5
          obtain ⟨rfl, f4_0⟩ := F10 rfl
          clear F10
          obtain ⟨rfl, f5_0⟩ := F11 rfl
          clear F11
          refine step_of 12 ?_ ?_ (fun K hK => ?_)
          rotate_left 1
          · simp only [List.getElem?_toArray, List.getElem?_cons_succ, List.getElem?_cons_zero]; exact rfl
          rw [HAq.out]
          try simp only [Act.put]
          try simp only [List.setIfInBounds_toArray, List.set_cons_zero, List.set_cons_succ]
          go_simp
          have hgn := mFq zF
          obtain ⟨wn, hwn, pq_0, hb, -⟩ := new_box w4 _ rfl [.bool m5, .slice o5 n5 c5, .slice p5 k5 d5] 28
          rw [hwn]
          refine hK.out _ _ (sFq (cFq zF hb)) ?_
          exact (hIVq _ _ _).2 ⟨true, true, true, true, _, _, _, (.slice (some ⟨w4.heap.size, 0, none⟩) 1 1), m3, o3, n3, c3, p3, k3, d3, m4, o4, n4, c4, p4, k4, d4, m5, o5, n5, c5, p5, k5, d5, w4.heap.size, rfl, (by simp only [HAq.out, Act.put, List.setIfInBounds_toArray, List.set_cons_zero, List.set_cons_succ]), (cFq zF hb), (fun _ => ⟨rfl, f3_0.below hb⟩), (fun _ => ⟨rfl, f4_0.below hb⟩), (fun _ => ⟨rfl, f5_0.below hb⟩), (fun _ => ⟨rfl, pq_0, hgn⟩), (fun _ => rfl), (fun _ => rfl), (fun _ => rfl), (fun _ => rfl)⟩
    · obtain rfl : k = n := by omega
      have htk : (termsQ l).take k = termsQ l := by rw [List.take_of_length_le]; rw [termsQ_len, hn]; exact Nat.le_refl _
      rw [htk] at fr_0
      obtain ⟨ao', c', rfl, hfr⟩ := fr_0.fracs row_0 (by rw [termsQ_len, hn])
      have HFR := Lib.hid hfr; clear hfr htk hlt
      clear row_0 fr_0
      go_wp2_with fail
      refine (fSum_go ao' k c' _ _ (by rw [List.length_map, termsQ_len, hn]) hn9 (fun L' X D hm => by simp at hm; obtain ⟨_, _, rfl, _⟩ := hm; omega) HFR.out).mono ?_
      rintro e w2 ⟨m1, o1, n1, c1, p1, k1, d1, rfl, f1_0, hb2⟩
      have hB_1 := hB_0.trans (hb2.mono hB_0.size)
      have pr_1 := pr_0.below hb2
      clear hb2 hB_0 pr_0
      obtain ⟨sf1a, sf1b, sf1c, sf1d, sf1e, sf1f⟩ := pr_1.open3
      obtain ⟨sg1a, sg1b, sg1c, sg1d⟩ := Box.put3 pr_1 (.bool m1) (.slice o1 n1 c1)
      go_wp2
      clear sf1a sf1b sf1c sf1d sf1e sf1f sg1a sg1b sg1c sg1d
      have hB_2 := below_setAll hB_1 (g := w.heap.size) (by omega) [.bool m1, .slice o1 n1 c1, .slice p1 k1 d1]
      have f1_1 := f1_0.setAll pr_1 (noWord3 _ _ _ _ _ _ _) [.bool m1, .slice o1 n1 c1, .slice p1 k1 d1] rfl
      have pr_2 := pr_1.setAll [.bool m1, .slice o1 n1 c1, .slice p1 k1 d1] rfl
      simp only [setAll, Nat.zero_add, Nat.reduceAdd] at hB_2 pr_2 f1_1
      clear hB_1 f1_0 pr_1
      generalize (World.setCell (World.setCell (World.setCell w2 ⟨w.heap.size, 0, none⟩ (.bool m1)) ⟨w.heap.size, 1, none⟩ (.slice o1 n1 c1)) ⟨w.heap.size, 2, none⟩ (.slice p1 k1 d1)) = w3 at *
      go_wp2
      obtain ⟨pre0, pre1, pre2, pre3, pre4, pre5⟩ := pr_2.open3
      exact bodyPost_ret (v := .agg #[.bool m1, .slice o1 n1 c1, .slice p1 k1 d1]) (by simp [results, Try.results17, go_sem, pre0, pre1, pre2]) rfl ⟨_, _, _, _, _, _, _, rfl, (f1_1.of (by rw [fVal_map]; rfl)).more (by rw [fLen_map, termsQ_len, hn]; exact Nat.le_refl _), hB_2⟩
end Go.Proofs.Ytdfabocecpcmcaa
/- Rows of Spots that grow; what is appended from nothing; a slice that is cut. Over any program, and some over none. -/
namespace Go.MagM
open Go.RowKit
/-- Cells that are Spots, six each. -/
def Sr (w : World) (L : Nat) (xs : List Value) (l : List (Rat × Rat)) : Prop :=
  (∀ u ∈ xs, u.oneCell' = true) ∧ (∀ u ∈ xs, NoWord u) ∧ xs.length = l.length * 6 ∧
  ∀ i x y, l[i]? = some (x, y) → ∃ m so sn sc tp tn tc m' so' sn' sc' tp' tn' tc', xs[i * 6]? = some (.bool m) ∧ xs[i * 6 + 1]? = some (.slice so sn sc) ∧ xs[i * 6 + 2]? = some (.slice tp tn tc) ∧
    xs[i * 6 + 3]? = some (.bool m') ∧ xs[i * 6 + 4]? = some (.slice so' sn' sc') ∧ xs[i * 6 + 5]? = some (.slice tp' tn' tc') ∧ FQ w (.agg #[.bool m, .slice so sn sc, .slice tp tn tc]) L x ∧ FQ w (.agg #[.bool m', .slice so' sn' sc', .slice tp' tn' tc']) L y
theorem Sr.kept {w w' : World} {L : Nat} {xs : List Value} {l : List (Rat × Rat)} (h : Sr w L xs l) (hk : Kept w w') : Sr w' L xs l :=
  ⟨h.1, h.2.1, h.2.2.1, fun i x y hi => by
    obtain ⟨m, so, sn, sc, tp, tn, tc, m', so', sn', sc', tp', tn', tc', h1, h2, h3, h4, h5, h6, h7, h8⟩ := h.2.2.2 i x y hi
    exact ⟨m, so, sn, sc, tp, tn, tc, m', so', sn', sc', tp', tn', tc', h1, h2, h3, h4, h5, h6, h7.kept hk, h8.kept hk⟩⟩
theorem Sr.below {w w' : World} {L : Nat} {xs : List Value} {l : List (Rat × Rat)} (h : Sr w L xs l) (hb : Below w.heap.size w w') : Sr w' L xs l := h.kept (Kept.below hb)
theorem Sr.drew {w : World} {L : Nat} {xs : List Value} {l : List (Rat × Rat)} (h : Sr w L xs l) : Sr w.drew L xs l := h
theorem Sr.setAll {w : World} {L g : Nat} {xs : List Value} {l : List (Rat × Rat)} (h : Sr w L xs l) {vs : List Value} (hb : Box w g vs) (hv : ∀ u ∈ vs, NoWord u) (ys : List Value) (hl : vs.length = ys.length) : Sr (Go.MagM.setAll w g 0 ys) L xs l :=
  ⟨h.1, h.2.1, h.2.2.1, fun i x y hi => by
    obtain ⟨m, so, sn, sc, tp, tn, tc, m', so', sn', sc', tp', tn', tc', h1, h2, h3, h4, h5, h6, h7, h8⟩ := h.2.2.2 i x y hi
    exact ⟨m, so, sn, sc, tp, tn, tc, m', so', sn', sc', tp', tn', tc', h1, h2, h3, h4, h5, h6, h7.setAll hb hv ys hl, h8.setAll hb hv ys hl⟩⟩
theorem Sr.nil (w : World) (L : Nat) : Sr w L [] [] := ⟨by simp, by simp, rfl, fun i x y hi => by simp at hi⟩
theorem Sr.one {w : World} {L : Nat} {m : Bool} {so : Option Addr} {sn sc : Nat} {tp : Option Addr} {tn tc : Nat} {m' : Bool} {so' : Option Addr} {sn' sc' : Nat} {tp' : Option Addr} {tn' tc' : Nat} {x y : Rat}
    (hx : FQ w (.agg #[.bool m, .slice so sn sc, .slice tp tn tc]) L x) (hy : FQ w (.agg #[.bool m', .slice so' sn' sc', .slice tp' tn' tc']) L y) : Sr w L [.bool m, .slice so sn sc, .slice tp tn tc, .bool m', .slice so' sn' sc', .slice tp' tn' tc'] [(x, y)] := by
  refine ⟨?_, noWord6 _ _ _ _ _ _ _ _ _ _ _ _ _ _, rfl, fun i a b hi => ?_⟩
  · intro u hu; simp at hu; rcases hu with rfl | rfl | rfl | rfl | rfl | rfl <;> rfl
  · have hi' := (List.getElem?_eq_some_iff.1 hi).1
    obtain rfl : i = 0 := by simpa using hi'
    simp at hi
    obtain ⟨rfl, rfl⟩ := hi
    exact ⟨_, _, _, _, _, _, _, _, _, _, _, _, _, _, rfl, rfl, rfl, rfl, rfl, rfl, hx, hy⟩
theorem Sr.append {w : World} {L : Nat} {xs ys : List Value} {l k : List (Rat × Rat)} (h : Sr w L xs l) (h' : Sr w L ys k) : Sr w L (xs ++ ys) (l ++ k) := by
  refine ⟨?_, ?_, ?_, fun i x y hi => ?_⟩
  · intro u hu; rw [List.mem_append] at hu; rcases hu with hu | hu
    · exact h.1 u hu
    · exact h'.1 u hu
  · intro u hu; rw [List.mem_append] at hu; rcases hu with hu | hu
    · exact h.2.1 u hu
    · exact h'.2.1 u hu
  · rw [List.length_append, List.length_append, h.2.2.1, h'.2.2.1, Nat.add_mul]
  · by_cases hlt : i < l.length
    · rw [List.getElem?_append_left hlt] at hi
      have hl := h.2.2.1
      obtain ⟨m, so, sn, sc, tp, tn, tc, m', so', sn', sc', tp', tn', tc', h1, h2, h3, h4, h5, h6, h7⟩ := h.2.2.2 i x y hi
      refine ⟨m, so, sn, sc, tp, tn, tc, m', so', sn', sc', tp', tn', tc', ?_, ?_, ?_, ?_, ?_, ?_, h7⟩ <;> rw [List.getElem?_append_left (by omega)] <;> assumption
    · rw [List.getElem?_append_right (by omega)] at hi
      have hl := h.2.2.1
      obtain ⟨m, so, sn, sc, tp, tn, tc, m', so', sn', sc', tp', tn', tc', h1, h2, h3, h4, h5, h6, h7⟩ := h'.2.2.2 _ x y hi
      refine ⟨m, so, sn, sc, tp, tn, tc, m', so', sn', sc', tp', tn', tc', ?_, ?_, ?_, ?_, ?_, ?_, h7⟩
      · rw [List.getElem?_append_right (by omega), show i * 6 - xs.length = (i - l.length) * 6 by omega]; exact h1
      · rw [List.getElem?_append_right (by omega), show i * 6 + 1 - xs.length = (i - l.length) * 6 + 1 by omega]; exact h2
      · rw [List.getElem?_append_right (by omega), show i * 6 + 2 - xs.length = (i - l.length) * 6 + 2 by omega]; exact h3
      · rw [List.getElem?_append_right (by omega), show i * 6 + 3 - xs.length = (i - l.length) * 6 + 3 by omega]; exact h4
      · rw [List.getElem?_append_right (by omega), show i * 6 + 4 - xs.length = (i - l.length) * 6 + 4 by omega]; exact h5
      · rw [List.getElem?_append_right (by omega), show i * 6 + 5 - xs.length = (i - l.length) * 6 + 5 by omega]; exact h6
theorem Sr.tail {w : World} {L : Nat} {xs : List Value} {p : Rat × Rat} {l : List (Rat × Rat)} (h : Sr w L xs (p :: l)) : Sr w L (xs.drop 6) l := by
  refine ⟨fun u hu => h.1 u (List.mem_of_mem_drop hu), fun u hu => h.2.1 u (List.mem_of_mem_drop hu), ?_, fun i x y hi => ?_⟩
  · have := h.2.2.1
    rw [List.length_drop, this, List.length_cons]; omega
  · obtain ⟨m, so, sn, sc, tp, tn, tc, m', so', sn', sc', tp', tn', tc', h1, h2, h3, h4, h5, h6, h7⟩ := h.2.2.2 (i + 1) x y (by simpa using hi)
    refine ⟨m, so, sn, sc, tp, tn, tc, m', so', sn', sc', tp', tn', tc', ?_, ?_, ?_, ?_, ?_, ?_, h7⟩ <;> rw [List.getElem?_drop]
    · rw [show 6 + i * 6 = (i + 1) * 6 by omega]; exact h1
    · rw [show 6 + (i * 6 + 1) = (i + 1) * 6 + 1 by omega]; exact h2
    · rw [show 6 + (i * 6 + 2) = (i + 1) * 6 + 2 by omega]; exact h3
    · rw [show 6 + (i * 6 + 3) = (i + 1) * 6 + 3 by omega]; exact h4
    · rw [show 6 + (i * 6 + 4) = (i + 1) * 6 + 4 by omega]; exact h5
    · rw [show 6 + (i * 6 + 5) = (i + 1) * 6 + 5 by omega]; exact h6
/-- Such a row is a slice of Spots. -/
theorem Sr.spots {w : World} {base : Nat} {e : TypeId} {v : Value} {n L : Nat} {xs : List Value} {l : List (Rat × Rat)} (h : Sr w L xs l) (hr : RowN w base e 6 v n xs) (hl : l.length = n) :
    ∃ ao c, v = .slice ao n c ∧ Spots w ao L l := by
  rcases hr.2 with ⟨rfl, rfl⟩ | ⟨g, cap, cur, rfl, _⟩
  · obtain rfl := List.length_eq_zero_iff.1 hl
    exact ⟨_, _, rfl, fun i x y hi => by simp at hi⟩
  · refine ⟨_, _, rfl, fun i x y hi => ?_⟩
    obtain ⟨m, so, sn, sc, tp, tn, tc, m', so', sn', sc', tp', tn', tc', h1, h2, h3, h4, h5, h6, h7, h8⟩ := h.2.2.2 i x y hi
    refine ⟨g, 0, m, so, sn, sc, tp, tn, tc, m', so', sn', sc', tp', tn', tc', rfl, ?_, ?_, ?_, ?_, ?_, ?_, h7, h8⟩ <;> rw [Nat.zero_add] <;> exact hr.cells rfl _ _ (by assumption)
/-- One of them, where it lies. -/
theorem Sr.at {w : World} {base : Nat} {e : TypeId} {v : Value} {n L : Nat} {xs : List Value} {l : List (Rat × Rat)} (h : Sr w L xs l) (hr : RowN w base e 6 v n xs) {i : Nat} {x y : Rat} (hi : l[i]? = some (x, y)) :
    ∃ g c m so sn sc tp tn tc m' so' sn' sc' tp' tn' tc', v = .slice (some ⟨g, 0, none⟩) n c ∧ At6 w g (i * 6) (.bool m) (.slice so sn sc) (.slice tp tn tc) (.bool m') (.slice so' sn' sc') (.slice tp' tn' tc') ∧
      FQ w (.agg #[.bool m, .slice so sn sc, .slice tp tn tc]) L x ∧ FQ w (.agg #[.bool m', .slice so' sn' sc', .slice tp' tn' tc']) L y := by
  obtain ⟨m, so, sn, sc, tp, tn, tc, m', so', sn', sc', tp', tn', tc', h1, h2, h3, h4, h5, h6, h7, h8⟩ := h.2.2.2 i x y hi
  have hl := (List.getElem?_eq_some_iff.1 h1).1
  rcases hr.2 with ⟨rfl, rfl⟩ | ⟨g, cap, cur, rfl, _⟩
  · have := hr.1; omega
  · exact ⟨g, cap, m, so, sn, sc, tp, tn, tc, m', so', sn', sc', tp', tn', tc', rfl, ⟨hr.cells rfl _ _ h1, hr.cells rfl _ _ h2, hr.cells rfl _ _ h3, hr.cells rfl _ _ h4, hr.cells rfl _ _ h5, hr.cells rfl _ _ h6⟩, h7, h8⟩
/-- A slice that has just been made. -/
theorem RowN.made {w w' : World} {base : Nat} {e : TypeId} {size n : Nat} {xs : List Value} (hw : w.alloc (.cells xs.toArray e) = w') (hb : base ≤ w.heap.size) (hl : xs.length = n * size) (hn : n ≤ maxLen) (hv : ∀ u ∈ xs, NoWord u) :
    RowN w' base e size (.slice (some ⟨w.heap.size, 0, none⟩) n n) n xs := by
  subst hw
  refine ⟨hl, .inr ⟨w.heap.size, n, xs.toArray, rfl, hb, heap_alloc_new w _, Nat.le_refl _, hn, by simpa using hl, ?_, by simpa using hv⟩⟩
  rw [← hl]; simp
theorem At6.grown {w w' : World} {b o : Nat} {v0 v1 v2 v3 v4 v5 : Value} {row : Option Nat} (h : At6 w b o v0 v1 v2 v3 v4 v5) (hg : w.grownBy w' row) (hne : row ≠ some b) : At6 w' b o v0 v1 v2 v3 v4 v5 := by
  have hl := World.block_lt_of_cell? w _ h.c0
  have e := hg.block b hl (fun k => hne k.symm)
  exact ⟨(World.cell?_of_block (a := ⟨b, o, none⟩) e).trans h.c0, (World.cell?_of_block (a := ⟨b, o + 1, none⟩) e).trans h.c1, (World.cell?_of_block (a := ⟨b, o + 2, none⟩) e).trans h.c2, (World.cell?_of_block (a := ⟨b, o + 3, none⟩) e).trans h.c3, (World.cell?_of_block (a := ⟨b, o + 4, none⟩) e).trans h.c4, (World.cell?_of_block (a := ⟨b, o + 5, none⟩) e).trans h.c5⟩
section
variable {P : Program}
theorem wanted_by {o : Oper} {y : Nat → Option Bool} {A B : Prop} (hg : Region.wanted o y = true) (h : A) : if Region.wanted o y = true then A else B := by rw [if_pos hg]; exact h
theorem wpList_append_row {ops : Array Oper} {rest : List Oper} {w : World} {o : Oper} {a : Act} {Q : Exit → Act → World → Prop} (hgd : o.guard = none) (s x : Operand) (t : TypeId)
    (ho : o.op = .call { callee := .builtin .append, args := #[s, x], argTypes := #[t, t] })
    {v v' : Value} {u : Value} {w' : World} (hs : a.eval s = v) (hx : a.eval x = u) (hr : (Builtin.append_ #[t, t] o.type #[v, u]).run P w = .ok v' w')
    (h : wpList P ops Q rest (a.put o.dst v') w') : wpList P ops Q (o :: rest) a w := wpList_plain hgd fun _ hK => wp_append_row s x t ho hs hx hr (hK _ _ h)
/-- Nothing is appended. -/
theorem run_append_none (w : World) (t ty e : TypeId) (i : TypeInfo) (ht : P.underlying t = some (.slice e)) (hi : P.info? e = some i) (g n c : Nat) (hn : n ≤ c) :
    (Builtin.append_ #[t, t] ty #[.slice (some ⟨g, 0, none⟩) n c, .slice none 0 0]).run P w = .ok (.slice (some ⟨g, 0, none⟩) n c) w := by
  simp [Builtin.append_, run_underlying ht, sizeOf, typeInfo, hi, Builtin.lenOf, Builtin.firstCells, loadCells, storeCells, hn]
/-- append to a slice that has no room: a new block. -/
theorem run_append_moved (w : World) (base : Nat) (t ty e : TypeId) (i : TypeInfo) (z : Value) (size bytes : Nat) (ht : P.underlying t = some (.slice e)) (hi : P.info? e = some i) (hz : i.zero = some z)
    (hsize : i.size = size) (hby : i.bytes = bytes) (hzs : z.cells.size = size) (hzw : ∀ u ∈ z.cells.toList, NoWord u)
    (b : Addr) (n : Nat) (olds : List Value) (hlo : olds.length = n * size) (holds : ∀ j u, olds[j]? = some u → w.cell? (b.add j) = some u) (how : ∀ u ∈ olds, NoWord u)
    (a : Addr) (m c : Nat) (news : List Value) (hm0 : 0 < m) (hl : news.length = m * size) (hnews : ∀ j u, news[j]? = some u → w.cell? (a.add j) = some u) (hnw : ∀ u ∈ news, NoWord u)
    (h63 : n + m ≤ maxLen) (hbytes : (n + m) * bytes ≤ 140737488355328) (hbase : base ≤ w.heap.size) :
    ∃ v' w', (Builtin.append_ #[t, t] ty #[.slice (some b) n n, .slice (some a) m c]).run P w = .ok v' w' ∧ RowN w' base e size v' (n + m) (olds ++ news) ∧ w.grownBy w' none ∧ Kept w w' := by
  subst hsize
  subst hby
  have hlen : (olds ++ news).length = (n + m) * i.size := by rw [List.length_append, hlo, hl, Nat.add_mul]
  have hr := run_append_grow (P := P) w t ty e i z ht hi hz b n n olds hlo holds a m c news hl hnews (by omega) (by simp only [maxLen] at h63; omega) (growslice_fits (by omega) hbytes)
  have hge := grownCap_ge w (n + m) n e
  have hcm : grownCap w (n + m) n e ≤ maxLen := grownCap_le_maxLen w (n + m) n e h63
  refine ⟨_, _, hr, ⟨hlen, .inr ⟨w.heap.size, _, _, rfl, hbase, heap_alloc_new w.drew _, hge, hcm, ?_, ?_, ?_⟩⟩, ⟨rfl, rfl, rfl, by simp, fun k hk _ => heap_alloc_old w.drew _ hk⟩, Kept.alloc w _⟩
  · simp only [Array.size_append, List.size_toArray, size_zeroCells, hzs, hlo, hl, ← Nat.add_mul]
    congr 1
    omega
  · simp only [Array.toList_append, List.append_assoc]
    rw [← List.append_assoc, ← hlen]
    exact List.take_left
  · intro u hu
    simp only [Array.toList_append, List.mem_append] at hu
    rcases hu with (hu | hu) | hu
    · exact how u hu
    · exact hnw u hu
    · exact noWord_zero hzw _ u hu
end
end Go.MagM
/- Boxes of ints hold no word. Over no program. -/
namespace Go.MagM
theorem noWordI2 (x y : Int) : ∀ u ∈ [Value.int .i64 x, Value.int .i64 y], NoWord u := by
  intro u hu; simp at hu; rcases hu with rfl | rfl <;> exact NoWord.int _
theorem noWordI6 (x0 x1 x2 x3 x4 x5 : Int) : ∀ u ∈ [Value.int .i64 x0, Value.int .i64 x1, Value.int .i64 x2, Value.int .i64 x3, Value.int .i64 x4, Value.int .i64 x5], NoWord u := by
  intro u hu; simp at hu; rcases hu with rfl | rfl | rfl | rfl | rfl | rfl <;> exact NoWord.int _
end Go.MagM
/- A part of a box is written. Over no program. -/
namespace Go.MagM
open Go.RowKit
/-- No word, by looking. -/
def isNW : Value → Bool
  | .int .u64 _ => false
  | _ => true
theorem noWordB (l : List Value) (h : l.all isNW = true) : ∀ u ∈ l, NoWord u := by
  intro u hu x e
  rw [List.all_eq_true] at h
  have := h u hu
  rw [e] at this
  cases this
theorem Kept.setFrom {g : Nat} : ∀ (xs : List Value) (off : Nat) {w : World} {vs : List Value}, Box w g vs → (∀ i u, off ≤ i → vs[i]? = some u → NoWord u) → off + xs.length ≤ vs.length → Kept w (Go.MagM.setAll w g off xs)
  | [], _, w, _, _, _, _ => Kept.refl w
  | x :: xs, off, w, vs, hb, hv, hl => by
    have hl' : off + (xs.length + 1) ≤ vs.length := by simpa using hl
    have ho : vs[off]? = some (vs[off]'(by omega)) := List.getElem?_eq_getElem (by omega)
    have h1 := Kept.setOne (hb.c off _ ho) (hv off _ (Nat.le_refl _) ho) x
    refine h1.trans (Kept.setFrom xs (off + 1) (hb.set off x) (fun i u hi hu => hv i u (by omega) ?_) (by simpa using by omega))
    rwa [List.getElem?_set_ne (by omega)] at hu
theorem Kept.setPart {w : World} {g : Nat} {vs : List Value} (hb : Box w g vs) (hv : ∀ u ∈ vs, NoWord u) (off : Nat) (xs : List Value) (hl : off + xs.length ≤ vs.length) : Kept w (Go.MagM.setAll w g off xs) :=
  Kept.setFrom xs off hb (fun _ _ _ hu => hv _ (List.mem_of_getElem? hu)) hl
section
variable {P : Program}
theorem run_storeCells_box {g : Nat} (off : Nat) : ∀ (xs : List Value) (i : Nat) {w : World} {vs : List Value}, Box w g vs → off + i + xs.length ≤ vs.length → (∀ v ∈ xs, v.oneCell' = true) → (storeCells ⟨g, off, none⟩ xs i).run P w = .ok () (Go.MagM.setAll w g (off + i) xs)
  | [], i, w, _, _, _, _ => rfl
  | x :: xs, i, w, vs, hb, hl, h1 => by
    have hl' : off + i + (xs.length + 1) ≤ vs.length := by simpa using hl
    have ho : vs[off + i]? = some (vs[off + i]'(by omega)) := List.getElem?_eq_getElem (by omega)
    have hc := hb.c (off + i) _ ho
    have hf := hb.f (off + i) _ ho
    have ha : (⟨g, off, none⟩ : Addr).add i = ⟨g, off + i, none⟩ := by unfold Addr.add; split <;> simp_all
    have ih := run_storeCells_box off xs (i + 1) (hb.set (off + i) x) (by simpa using by omega) (fun v hv => h1 v (by simp [hv]))
    rw [storeCells, Sem.run_bind, run_store P w _ x .plain (h1 x (by simp)), ha, hc]
    simp only [hf, Bool.false_eq_true, if_false, Result.andThen_ok]
    exact ih
/-- A store of several cells into a box. -/
theorem wp_store_box {o : Oper} {a : Act} {w : World} {K : Act → World → Prop} {Q : Exit → Act → World → Prop} (ty : TypeId) (x y : Operand) (ho : o.op = .store ty x y)
    {g off : Nat} {vs : List Value} (xs : List Value) (hb : Box w g vs) (hx : a.eval x = .pointer (some ⟨g, off, none⟩)) (hy : a.eval y = .agg xs.toArray) (hi : (P.info? ty).map (·.size) = some xs.length)
    (hl : off + xs.length ≤ vs.length) (h1 : xs.all (·.oneCell') = true) {w' : World} (hw : Go.MagM.setAll w g off xs = w') (h : K (a.put o.dst undef) w') : o.wp P a w K Q := by
  have hr := run_storeCells_box (P := P) off xs 0 hb (by omega) (fun v hv => List.all_eq_true.1 h1 v hv)
  have hr2 : (storeVar ty ⟨g, off, none⟩ (.agg xs.toArray)).run P w = .ok () (Go.MagM.setAll w g off xs) := by
    cases hq : P.info? ty with
    | none => simp [hq] at hi
    | some i =>
      have hs : xs.length = i.size := by simp [hq] at hi; omega
      simp only [Nat.add_zero] at hr
      simp [storeVar, sizeOf, typeInfo, hq, Value.cells, hs, hr]
  unfold Oper.wp execOp
  simp only [ho, hx, hy, Instr.storeAt, Instr.sureAddr, Sem.run_bind, Sem.run_pure, Result.andThen_ok, hr2]
  rw [hw]; exact h
theorem wpList_store_box {ops : Array Oper} {rest : List Oper} {o : Oper} {a : Act} {w : World} {Q : Exit → Act → World → Prop} (hg : o.guard = none) (ty : TypeId) (x y : Operand) (ho : o.op = .store ty x y)
    {g off : Nat} {vs : List Value} (xs : List Value) (hb : Box w g vs) (hx : a.eval x = .pointer (some ⟨g, off, none⟩)) (hy : a.eval y = .agg xs.toArray) (hi : (P.info? ty).map (·.size) = some xs.length)
    (hl : off + xs.length ≤ vs.length) (h1 : xs.all (·.oneCell') = true) {w' : World} (hw : Go.MagM.setAll w g off xs = w') (h : wpList P ops Q rest (a.put o.dst undef) w') : wpList P ops Q (o :: rest) a w :=
  wpList_plain hg fun _ hK => wp_store_box ty x y ho xs hb hx hy hi hl h1 hw (hK _ _ h)
theorem run_loadVar_box (w : World) (g : Nat) (ty : TypeId) (vs : List Value) (d : TypeDesc) (hb : Box w g vs)
    (hu : P.underlying ty = some d) (hd : (match d with | .struct _ | .array _ _ => true | _ => false) = true) (hi : (P.info? ty).map (·.size) = some vs.length) :
    (loadVar ty ⟨g, 0, none⟩).run P w = .ok (.agg vs.toArray) w := by
  have hl : (loadCells ⟨g, 0, none⟩ vs.length).run P w = .ok vs.toArray w :=
    run_loadCells_list (P := P) w ⟨g, 0, none⟩ vs (fun j v hv => by
      have hadd : (⟨g, 0, none⟩ : Addr).add j = ⟨g, j, none⟩ := by unfold Addr.add; split <;> simp_all
      rw [hadd]; exact hb.c j v hv)
  cases hq : P.info? ty with
  | none => simp [hq] at hi
  | some i =>
    have hs : i.size = vs.length := by simpa [hq] using hi
    have hagg : (isAgg ty).run P w = .ok true w := by
      unfold isAgg
      rw [Sem.run_bind, run_underlying hu w]
      cases d <;> simp_all
    simp [loadVar, Sem.run_bind, hagg, sizeOf, typeInfo, hq, hs, hl]
/-- A load of a whole box. -/
theorem wpList_load_box {ops : Array Oper} {rest : List Oper} {o : Oper} {a : Act} {w : World} {Q : Exit → Act → World → Prop} (hgd : o.guard = none) (ty : TypeId) (x : Operand) (ho : o.op = .load ty x)
    {g : Nat} {vs : List Value} (hb : Box w g vs) (d : TypeDesc) (hx : a.eval x = .pointer (some ⟨g, 0, none⟩)) (hu : P.underlying ty = some d) (hd : (match d with | .struct _ | .array _ _ => true | _ => false) = true) (hi : (P.info? ty).map (·.size) = some vs.length)
    (h : wpList P ops Q rest (a.put o.dst (.agg vs.toArray)) w) : wpList P ops Q (o :: rest) a w := by
  refine wpList_plain hgd fun _ hK => ?_
  unfold Oper.wp execOp
  simp only [ho, hx, Instr.loadAt, Instr.sureAddr, Sem.run_bind, Sem.run_pure, Result.andThen_ok, run_loadVar_box w g ty vs d hb hu hd hi]
  exact hK _ _ h
theorem results_cell_box {fn : Func} {p : Tmp} {ty : TypeId} (h : fn.results = #[.cell p ty]) (tmps : Array Value) (w : World) (g : Nat) (vs : List Value) (d : TypeDesc)
    (hp : tmps.getD p undef = .pointer (some ⟨g, 0, none⟩)) (hb : Box w g vs) (hu : P.underlying ty = some d) (hd : (match d with | .struct _ | .array _ _ => true | _ => false) = true) (hi : (P.info? ty).map (·.size) = some vs.length) :
    (results fn tmps).run P w = .ok (.agg vs.toArray) w := by
  have hp' : tmps[p]?.getD undef = .pointer (some ⟨g, 0, none⟩) := by simpa using hp
  simp [results, h, hp', asAddr, run_loadVar_box w g ty vs d hb hu hd hi]
end
end Go.MagM
/- The calls of spot: Of, across, Dist2, Along, Side, within. -/
namespace Go.Proofs.Ytdfabocecpcmcaa
open Go.RowKit Go.MagM
set_option maxHeartbeats 4000000 in
theorem sOf_w (a0 a1 : Int) (h01 : -9223372036854775808 ≤ a0) (h02 : a0 < 9223372036854775808) (h11 : -9223372036854775808 ≤ a1) (h12 : a1 < 9223372036854775808) (w : World) :
    Calls Try.prog 28 #[.agg #[.int .i64 a0, .int .i64 a1]] w fun e w' => AnsS w w' e (1) (a0) (a1) := by
  have hB_0 := Below.refl w.heap.size w
  have H01 := Lib.hid h01; have H02 := Lib.hid h02; have H11 := Lib.hid h11; have H12 := Lib.hid h12
  clear h01 h02 h11 h12
  obtain ⟨w1, hw1, pa_0, hb1, hs1⟩ := new_box w (w.heap.size) rfl [.int .i64 a0, .int .i64 a1] 50
  have hb1' : Below w.heap.size w w1 := hb1.mono (by omega)
  clear hb1
  have hB_1 := hB_0.trans (hb1'.mono hB_0.size)
  clear hb1' hB_0
  obtain ⟨w2, hw2, pr_0, hb2, hs2⟩ := new_box w1 (w.heap.size + 1) hs1 [.bool false, .slice none 0 0, .slice none 0 0, .bool false, .slice none 0 0, .slice none 0 0] 42
  have hb2' : Below w1.heap.size w1 w2 := hb2.mono (by omega)
  clear hb2
  have hB_2 := hB_1.trans (hb2'.mono hB_1.size)
  have pa_1 := pa_0.below hb2'
  clear hb2' hB_1 pa_0
  go_enter Try.func28, Try.ntmps28
  go_wp2
  have hB_3 := hB_2.drew'
  have pa_2 := pa_1.drew
  have pr_1 := pr_0.drew
  clear hB_2 pa_1 pr_0
  go_region_held3 (fun w' => w'.cell? ⟨w.heap.size, 0, none⟩ = some (.int .i64 a0) ∧ w'.cell? ⟨w.heap.size, 1, none⟩ = some (.int .i64 a1))
    (first | with_reducible exact ⟨pa_2.c0, pa_2.c1⟩ | with_reducible exact ⟨pa_3.c0, pa_3.c1⟩ | with_reducible exact ⟨pa_4.c0, pa_4.c1⟩ | with_reducible exact ⟨pa_5.c0, pa_5.c1⟩ | fail)
    (first
      | (go_at_call 29; (with_reducible refine (fOf_any a0 H01.out H02.out _).mono ?_); rintro e w3 ⟨m1x, o1x, n1x, c1x, p1x, k1x, d1x, rfl, f1x_0, hb3⟩; have hB_4 := hB_3.trans (hb3.mono hB_3.size); have pa_3 := pa_2.below hb3; have pr_2 := pr_1.below hb3; clear hb3 hB_3 pa_2 pr_1)
      | (go_at_call 29; (with_reducible refine (fOf_any a1 H11.out H12.out _).mono ?_); rintro e w4 ⟨m1y, o1y, n1y, c1y, p1y, k1y, d1y, rfl, f1y_0, hb4⟩; have hB_5 := hB_4.trans (hb4.mono hB_4.size); have pa_4 := pa_3.below hb4; have pr_3 := pr_2.below hb4; have f1x_1 := f1x_0.below hb4; clear hb4 hB_4 pa_3 pr_2 f1x_0; obtain ⟨sf1a, sf1b, sf1c, sf1d, sf1e, sf1f, sf1g, sf1h, sf1i, sf1j, sf1k, sf1l⟩ := pr_3.open6; obtain ⟨sg1a, sg1b, sg1c, sg1d, sg1e, sg1f, sg1g, sg1h, sg1i, sg1j⟩ := Box.put6 pr_3 (.bool m1x) (.slice o1x n1x c1x) (.slice p1x k1x d1x) (.bool m1y) (.slice o1y n1y c1y); have hB_6 := below_setAll hB_5 (g := w.heap.size + 1) (by omega) [.bool m1x, .slice o1x n1x c1x, .slice p1x k1x d1x, .bool m1y, .slice o1y n1y c1y, .slice p1y k1y d1y]; have pa_5 := pa_4.farAll (g' := w.heap.size + 1) (by omega) [.bool m1x, .slice o1x n1x c1x, .slice p1x k1x d1x, .bool m1y, .slice o1y n1y c1y, .slice p1y k1y d1y]; have f1x_2 := f1x_1.setAll pr_3 (noWord6 _ _ _ _ _ _ _ _ _ _ _ _ _ _) [.bool m1x, .slice o1x n1x c1x, .slice p1x k1x d1x, .bool m1y, .slice o1y n1y c1y, .slice p1y k1y d1y] rfl; have f1y_1 := f1y_0.setAll pr_3 (noWord6 _ _ _ _ _ _ _ _ _ _ _ _ _ _) [.bool m1x, .slice o1x n1x c1x, .slice p1x k1x d1x, .bool m1y, .slice o1y n1y c1y, .slice p1y k1y d1y] rfl; have pr_4 := pr_3.setAll [.bool m1x, .slice o1x n1x c1x, .slice p1x k1x d1x, .bool m1y, .slice o1y n1y c1y, .slice p1y k1y d1y] rfl; simp only [setAll, Nat.zero_add, Nat.reduceAdd] at hB_6 pa_5 pr_4 f1x_2 f1y_1))
  clear hB_5 pa_4 f1x_1 f1y_0 pr_3
  clear sf1a sf1b sf1c sf1d sf1e sf1f sf1g sf1h sf1i sf1j sf1k sf1l sg1a sg1b sg1c sg1d sg1e sg1f sg1g sg1h sg1i sg1j
  generalize (World.setCell (World.setCell (World.setCell (World.setCell (World.setCell (World.setCell w4 ⟨w.heap.size + 1, 0, none⟩ (.bool m1x)) ⟨w.heap.size + 1, 1, none⟩ (.slice o1x n1x c1x)) ⟨w.heap.size + 1, 2, none⟩ (.slice p1x k1x d1x)) ⟨w.heap.size + 1, 3, none⟩ (.bool m1y)) ⟨w.heap.size + 1, 4, none⟩ (.slice o1y n1y c1y)) ⟨w.heap.size + 1, 5, none⟩ (.slice p1y k1y d1y)) = w5 at *
  go_wp2
  obtain ⟨pre0, pre1, pre2, pre3, pre4, pre5, pre6, pre7, pre8, pre9, pre10, pre11⟩ := pr_4.open6
  exact bodyPost_ret (v := .agg #[.bool m1x, .slice o1x n1x c1x, .slice p1x k1x d1x, .bool m1y, .slice o1y n1y c1y, .slice p1y k1y d1y]) (by simp [results, Try.results28, go_sem, pre0, pre1, pre2, pre3, pre4, pre5]) rfl ⟨_, _, _, _, _, _, _, _, _, _, _, _, _, _, rfl, f1x_2, f1y_1, hB_6⟩
theorem sOf_any (a0 a1 : Int) (h0 : InP a0) (h1 : InP a1) (w : World) : Calls Try.prog 28 #[.agg #[.int .i64 a0, .int .i64 a1]] w fun e w' => AnsS w w' e (1) (a0) (a1) := by
  unfold InP at h0 h1; exact sOf_w a0 a1 (by omega) (by omega) (by omega) (by omega) w
set_option maxHeartbeats 4000000 in
theorem sAcross_any {axm : Bool} {axo : Option Addr} {axn axc : Nat} {axp : Option Addr} {axk axd : Nat} {aym : Bool} {ayo : Option Addr} {ayn ayc : Nat} {ayp : Option Addr} {ayk ayd : Nat} {bxm : Bool} {bxo : Option Addr} {bxn bxc : Nat} {bxp : Option Addr} {bxk bxd : Nat} {bym : Bool} {byo : Option Addr} {byn byc : Nat} {byp : Option Addr} {byk byd : Nat} (La : Nat) (axq ayq : Rat) (Lb : Nat) (bxq byq : Rat) (w : World) (hLa : La ≤ 1000000) (hLb : Lb ≤ 1000000) (fax_0 : FQ w (.agg #[.bool axm, .slice axo axn axc, .slice axp axk axd]) La axq) (fay_0 : FQ w (.agg #[.bool aym, .slice ayo ayn ayc, .slice ayp ayk ayd]) La ayq) (fbx_0 : FQ w (.agg #[.bool bxm, .slice bxo bxn bxc, .slice bxp bxk bxd]) Lb bxq) (fby_0 : FQ w (.agg #[.bool bym, .slice byo byn byc, .slice byp byk byd]) Lb byq) :
    Calls Try.prog 49 #[.agg #[.bool axm, .slice axo axn axc, .slice axp axk axd, .bool aym, .slice ayo ayn ayc, .slice ayp ayk ayd], .agg #[.bool bxm, .slice bxo bxn bxc, .slice bxp bxk bxd, .bool bym, .slice byo byn byc, .slice byp byk byd]] w fun e w' => AnsS w w' e (Lb + La + 2) (bxq - axq) (byq - ayq) := by
  have hB_0 := Below.refl w.heap.size w
  have HLa := Lib.hid hLa; have HLb := Lib.hid hLb
  clear hLa hLb
  obtain ⟨w1, hw1, pa_0, hb1, hs1⟩ := new_box w (w.heap.size) rfl [.bool axm, .slice axo axn axc, .slice axp axk axd, .bool aym, .slice ayo ayn ayc, .slice ayp ayk ayd] 42
  have hb1' : Below w.heap.size w w1 := hb1.mono (by omega)
  clear hb1
  have hB_1 := hB_0.trans (hb1'.mono hB_0.size)
  have fax_1 := fax_0.below hb1'
  have fay_1 := fay_0.below hb1'
  have fbx_1 := fbx_0.below hb1'
  have fby_1 := fby_0.below hb1'
  clear hb1' hB_0 fax_0 fay_0 fbx_0 fby_0
  obtain ⟨w2, hw2, pb_0, hb2, hs2⟩ := new_box w1 (w.heap.size + 1) hs1 [.bool bxm, .slice bxo bxn bxc, .slice bxp bxk bxd, .bool bym, .slice byo byn byc, .slice byp byk byd] 42
  have hb2' : Below w1.heap.size w1 w2 := hb2.mono (by omega)
  clear hb2
  have hB_2 := hB_1.trans (hb2'.mono hB_1.size)
  have fax_2 := fax_1.below hb2'
  have fay_2 := fay_1.below hb2'
  have fbx_2 := fbx_1.below hb2'
  have fby_2 := fby_1.below hb2'
  have pa_1 := pa_0.below hb2'
  clear hb2' hB_1 fax_1 fay_1 fbx_1 fby_1 pa_0
  obtain ⟨w3, hw3, pr_0, hb3, hs3⟩ := new_box w2 (w.heap.size + 1 + 1) hs2 [.bool false, .slice none 0 0, .slice none 0 0, .bool false, .slice none 0 0, .slice none 0 0] 42
  have hb3' : Below w2.heap.size w2 w3 := hb3.mono (by omega)
  clear hb3
  have hB_3 := hB_2.trans (hb3'.mono hB_2.size)
  have fax_3 := fax_2.below hb3'
  have fay_3 := fay_2.below hb3'
  have fbx_3 := fbx_2.below hb3'
  have fby_3 := fby_2.below hb3'
  have pa_2 := pa_1.below hb3'
  have pb_1 := pb_0.below hb3'
  clear hb3' hB_2 fax_2 fay_2 fbx_2 fby_2 pa_1 pb_0
  go_enter Try.func49, Try.ntmps49
  go_wp2
  have hB_4 := hB_3.drew'
  have fax_4 := fax_3.drew
  have fay_4 := fay_3.drew
  have fbx_4 := fbx_3.drew
  have fby_4 := fby_3.drew
  have pa_3 := pa_2.drew
  have pb_2 := pb_1.drew
  have pr_1 := pr_0.drew
  clear hB_3 fax_3 fay_3 fbx_3 fby_3 pa_2 pb_1 pr_0
  go_region_held3 (fun w' => w'.cell? ⟨w.heap.size, 0, none⟩ = some (.bool axm) ∧ w'.cell? ⟨w.heap.size, 1, none⟩ = some (.slice axo axn axc) ∧ w'.cell? ⟨w.heap.size, 2, none⟩ = some (.slice axp axk axd) ∧ w'.cell? ⟨w.heap.size, 3, none⟩ = some (.bool aym) ∧ w'.cell? ⟨w.heap.size, 4, none⟩ = some (.slice ayo ayn ayc) ∧ w'.cell? ⟨w.heap.size, 5, none⟩ = some (.slice ayp ayk ayd) ∧ w'.cell? ⟨w.heap.size + 1, 0, none⟩ = some (.bool bxm) ∧ w'.cell? ⟨w.heap.size + 1, 1, none⟩ = some (.slice bxo bxn bxc) ∧ w'.cell? ⟨w.heap.size + 1, 2, none⟩ = some (.slice bxp bxk bxd) ∧ w'.cell? ⟨w.heap.size + 1, 3, none⟩ = some (.bool bym) ∧ w'.cell? ⟨w.heap.size + 1, 4, none⟩ = some (.slice byo byn byc) ∧ w'.cell? ⟨w.heap.size + 1, 5, none⟩ = some (.slice byp byk byd))
    (first | with_reducible exact ⟨pa_3.c0, pa_3.c1, pa_3.c2, pa_3.c3, pa_3.c4, pa_3.c5, pb_2.c0, pb_2.c1, pb_2.c2, pb_2.c3, pb_2.c4, pb_2.c5⟩ | with_reducible exact ⟨pa_4.c0, pa_4.c1, pa_4.c2, pa_4.c3, pa_4.c4, pa_4.c5, pb_3.c0, pb_3.c1, pb_3.c2, pb_3.c3, pb_3.c4, pb_3.c5⟩ | with_reducible exact ⟨pa_5.c0, pa_5.c1, pa_5.c2, pa_5.c3, pa_5.c4, pa_5.c5, pb_4.c0, pb_4.c1, pb_4.c2, pb_4.c3, pb_4.c4, pb_4.c5⟩ | with_reducible exact ⟨pa_6.c0, pa_6.c1, pa_6.c2, pa_6.c3, pa_6.c4, pa_6.c5, pb_5.c0, pb_5.c1, pb_5.c2, pb_5.c3, pb_5.c4, pb_5.c5⟩ | fail)
    (first
      | (go_at_call 22; (with_reducible refine (qSub _ _ Lb La bxq axq _ (by have := HLa.out; have := HLb.out; omega) (by have := HLa.out; have := HLb.out; omega) fbx_4 fax_4).mono ?_); rintro e w4 ⟨m1x, o1x, n1x, c1x, p1x, k1x, d1x, rfl, f1x_0, hb4⟩; have hB_5 := hB_4.trans (hb4.mono hB_4.size); have fax_5 := fax_4.below hb4; have fay_5 := fay_4.below hb4; have fbx_5 := fbx_4.below hb4; have fby_5 := fby_4.below hb4; have pa_4 := pa_3.below hb4; have pb_3 := pb_2.below hb4; have pr_2 := pr_1.below hb4; clear hb4 hB_4 fax_4 fay_4 fbx_4 fby_4 pa_3 pb_2 pr_1)
      | (go_at_call 22; (with_reducible refine (qSub _ _ Lb La byq ayq _ (by have := HLa.out; have := HLb.out; omega) (by have := HLa.out; have := HLb.out; omega) fby_5 fay_5).mono ?_); rintro e w5 ⟨m1y, o1y, n1y, c1y, p1y, k1y, d1y, rfl, f1y_0, hb5⟩; have hB_6 := hB_5.trans (hb5.mono hB_5.size); have fax_6 := fax_5.below hb5; have fay_6 := fay_5.below hb5; have fbx_6 := fbx_5.below hb5; have fby_6 := fby_5.below hb5; have pa_5 := pa_4.below hb5; have pb_4 := pb_3.below hb5; have pr_3 := pr_2.below hb5; have f1x_1 := f1x_0.below hb5; clear hb5 hB_5 fax_5 fay_5 fbx_5 fby_5 pa_4 pb_3 pr_2 f1x_0; obtain ⟨sf1a, sf1b, sf1c, sf1d, sf1e, sf1f, sf1g, sf1h, sf1i, sf1j, sf1k, sf1l⟩ := pr_3.open6; obtain ⟨sg1a, sg1b, sg1c, sg1d, sg1e, sg1f, sg1g, sg1h, sg1i, sg1j⟩ := Box.put6 pr_3 (.bool m1x) (.slice o1x n1x c1x) (.slice p1x k1x d1x) (.bool m1y) (.slice o1y n1y c1y); have hB_7 := below_setAll hB_6 (g := w.heap.size + 1 + 1) (by omega) [.bool m1x, .slice o1x n1x c1x, .slice p1x k1x d1x, .bool m1y, .slice o1y n1y c1y, .slice p1y k1y d1y]; have fax_7 := fax_6.setAll pr_3 (noWord6 _ _ _ _ _ _ _ _ _ _ _ _ _ _) [.bool m1x, .slice o1x n1x c1x, .slice p1x k1x d1x, .bool m1y, .slice o1y n1y c1y, .slice p1y k1y d1y] rfl; have fay_7 := fay_6.setAll pr_3 (noWord6 _ _ _ _ _ _ _ _ _ _ _ _ _ _) [.bool m1x, .slice o1x n1x c1x, .slice p1x k1x d1x, .bool m1y, .slice o1y n1y c1y, .slice p1y k1y d1y] rfl; have fbx_7 := fbx_6.setAll pr_3 (noWord6 _ _ _ _ _ _ _ _ _ _ _ _ _ _) [.bool m1x, .slice o1x n1x c1x, .slice p1x k1x d1x, .bool m1y, .slice o1y n1y c1y, .slice p1y k1y d1y] rfl; have fby_7 := fby_6.setAll pr_3 (noWord6 _ _ _ _ _ _ _ _ _ _ _ _ _ _) [.bool m1x, .slice o1x n1x c1x, .slice p1x k1x d1x, .bool m1y, .slice o1y n1y c1y, .slice p1y k1y d1y] rfl; have pa_6 := pa_5.farAll (g' := w.heap.size + 1 + 1) (by omega) [.bool m1x, .slice o1x n1x c1x, .slice p1x k1x d1x, .bool m1y, .slice o1y n1y c1y, .slice p1y k1y d1y]; have pb_5 := pb_4.farAll (g' := w.heap.size + 1 + 1) (by omega) [.bool m1x, .slice o1x n1x c1x, .slice p1x k1x d1x, .bool m1y, .slice o1y n1y c1y, .slice p1y k1y d1y]; have f1x_2 := f1x_1.setAll pr_3 (noWord6 _ _ _ _ _ _ _ _ _ _ _ _ _ _) [.bool m1x, .slice o1x n1x c1x, .slice p1x k1x d1x, .bool m1y, .slice o1y n1y c1y, .slice p1y k1y d1y] rfl; have f1y_1 := f1y_0.setAll pr_3 (noWord6 _ _ _ _ _ _ _ _ _ _ _ _ _ _) [.bool m1x, .slice o1x n1x c1x, .slice p1x k1x d1x, .bool m1y, .slice o1y n1y c1y, .slice p1y k1y d1y] rfl; have pr_4 := pr_3.setAll [.bool m1x, .slice o1x n1x c1x, .slice p1x k1x d1x, .bool m1y, .slice o1y n1y c1y, .slice p1y k1y d1y] rfl; simp only [setAll, Nat.zero_add, Nat.reduceAdd] at hB_7 fax_7 fay_7 fbx_7 fby_7 pa_6 pb_5 pr_4 f1x_2 f1y_1))
  clear hB_6 fax_6 fay_6 fbx_6 fby_6 pa_5 pb_4 f1x_1 f1y_0 pr_3
  clear sf1a sf1b sf1c sf1d sf1e sf1f sf1g sf1h sf1i sf1j sf1k sf1l sg1a sg1b sg1c sg1d sg1e sg1f sg1g sg1h sg1i sg1j
  generalize (World.setCell (World.setCell (World.setCell (World.setCell (World.setCell (World.setCell w5 ⟨w.heap.size + 1 + 1, 0, none⟩ (.bool m1x)) ⟨w.heap.size + 1 + 1, 1, none⟩ (.slice o1x n1x c1x)) ⟨w.heap.size + 1 + 1, 2, none⟩ (.slice p1x k1x d1x)) ⟨w.heap.size + 1 + 1, 3, none⟩ (.bool m1y)) ⟨w.heap.size + 1 + 1, 4, none⟩ (.slice o1y n1y c1y)) ⟨w.heap.size + 1 + 1, 5, none⟩ (.slice p1y k1y d1y)) = w6 at *
  go_wp2
  obtain ⟨pre0, pre1, pre2, pre3, pre4, pre5, pre6, pre7, pre8, pre9, pre10, pre11⟩ := pr_4.open6
  exact bodyPost_ret (v := .agg #[.bool m1x, .slice o1x n1x c1x, .slice p1x k1x d1x, .bool m1y, .slice o1y n1y c1y, .slice p1y k1y d1y]) (by simp [results, Try.results49, go_sem, pre0, pre1, pre2, pre3, pre4, pre5]) rfl ⟨_, _, _, _, _, _, _, _, _, _, _, _, _, _, rfl, f1x_2, f1y_1, hB_7⟩
set_option maxHeartbeats 4000000 in
theorem sDist2_any {axm : Bool} {axo : Option Addr} {axn axc : Nat} {axp : Option Addr} {axk axd : Nat} {aym : Bool} {ayo : Option Addr} {ayn ayc : Nat} {ayp : Option Addr} {ayk ayd : Nat} {bxm : Bool} {bxo : Option Addr} {bxn bxc : Nat} {bxp : Option Addr} {bxk bxd : Nat} {bym : Bool} {byo : Option Addr} {byn byc : Nat} {byp : Option Addr} {byk byd : Nat} (La : Nat) (axq ayq : Rat) (Lb : Nat) (bxq byq : Rat) (w : World) (hLa : La ≤ 1000000) (hLb : Lb ≤ 1000000) (fax_0 : FQ w (.agg #[.bool axm, .slice axo axn axc, .slice axp axk axd]) La axq) (fay_0 : FQ w (.agg #[.bool aym, .slice ayo ayn ayc, .slice ayp ayk ayd]) La ayq) (fbx_0 : FQ w (.agg #[.bool bxm, .slice bxo bxn bxc, .slice bxp bxk bxd]) Lb bxq) (fby_0 : FQ w (.agg #[.bool bym, .slice byo byn byc, .slice byp byk byd]) Lb byq) :
    Calls Try.prog 27 #[.agg #[.bool axm, .slice axo axn axc, .slice axp axk axd, .bool aym, .slice ayo ayn ayc, .slice ayp ayk ayd], .agg #[.bool bxm, .slice bxo bxn bxc, .slice bxp bxk bxd, .bool bym, .slice byo byn byc, .slice byp byk byd]] w fun e w' => AnsF w w' e (((Lb + La + 2) + (Lb + La + 2) + 2) + ((Lb + La + 2) + (Lb + La + 2) + 2) + 2) (distQ axq ayq bxq byq) := by
  have hB_0 := Below.refl w.heap.size w
  have HLa := Lib.hid hLa; have HLb := Lib.hid hLb
  clear hLa hLb
  obtain ⟨w1, hw1, pa_0, hb1, hs1⟩ := new_box w (w.heap.size) rfl [.bool axm, .slice axo axn axc, .slice axp axk axd, .bool aym, .slice ayo ayn ayc, .slice ayp ayk ayd] 42
  have hb1' : Below w.heap.size w w1 := hb1.mono (by omega)
  clear hb1
  have hB_1 := hB_0.trans (hb1'.mono hB_0.size)
  have fax_1 := fax_0.below hb1'
  have fay_1 := fay_0.below hb1'
  have fbx_1 := fbx_0.below hb1'
  have fby_1 := fby_0.below hb1'
  clear hb1' hB_0 fax_0 fay_0 fbx_0 fby_0
  obtain ⟨w2, hw2, pb_0, hb2, hs2⟩ := new_box w1 (w.heap.size + 1) hs1 [.bool bxm, .slice bxo bxn bxc, .slice bxp bxk bxd, .bool bym, .slice byo byn byc, .slice byp byk byd] 42
  have hb2' : Below w1.heap.size w1 w2 := hb2.mono (by omega)
  clear hb2
  have hB_2 := hB_1.trans (hb2'.mono hB_1.size)
  have fax_2 := fax_1.below hb2'
  have fay_2 := fay_1.below hb2'
  have fbx_2 := fbx_1.below hb2'
  have fby_2 := fby_1.below hb2'
  have pa_1 := pa_0.below hb2'
  clear hb2' hB_1 fax_1 fay_1 fbx_1 fby_1 pa_0
  obtain ⟨w3, hw3, pr_0, hb3, hs3⟩ := new_box w2 (w.heap.size + 1 + 1) hs2 [.bool false, .slice none 0 0, .slice none 0 0] 28
  have hb3' : Below w2.heap.size w2 w3 := hb3.mono (by omega)
  clear hb3
  have hB_3 := hB_2.trans (hb3'.mono hB_2.size)
  have fax_3 := fax_2.below hb3'
  have fay_3 := fay_2.below hb3'
  have fbx_3 := fbx_2.below hb3'
  have fby_3 := fby_2.below hb3'
  have pa_2 := pa_1.below hb3'
  have pb_1 := pb_0.below hb3'
  clear hb3' hB_2 fax_2 fay_2 fbx_2 fby_2 pa_1 pb_0
  go_enter Try.func27, Try.ntmps27
  obtain ⟨pae0, pae1, pae2, pae3, pae4, pae5, pae6, pae7, pae8, pae9, pae10, pae11⟩ := pa_2.open6
  obtain ⟨pbe0, pbe1, pbe2, pbe3, pbe4, pbe5, pbe6, pbe7, pbe8, pbe9, pbe10, pbe11⟩ := pb_1.open6
  go_wp2_with fail
  refine (sAcross_any La axq ayq Lb bxq byq _ (by have := HLa.out; have := HLb.out; omega) (by have := HLa.out; have := HLb.out; omega) fax_3 fay_3 fbx_3 fby_3).mono ?_
  rintro e w4 ⟨m1x, o1x, n1x, c1x, p1x, k1x, d1x, m1y, o1y, n1y, c1y, p1y, k1y, d1y, rfl, f1x_0, f1y_0, hb4⟩
  clear pae0 pae1 pae2 pae3 pae4 pae5 pae6 pae7 pae8 pae9 pae10 pae11 pbe0 pbe1 pbe2 pbe3 pbe4 pbe5 pbe6 pbe7 pbe8 pbe9 pbe10 pbe11
  have hB_4 := hB_3.trans (hb4.mono hB_3.size)
  have fax_4 := fax_3.below hb4
  have fay_4 := fay_3.below hb4
  have fbx_4 := fbx_3.below hb4
  have fby_4 := fby_3.below hb4
  have pa_3 := pa_2.below hb4
  have pb_2 := pb_1.below hb4
  have pr_1 := pr_0.below hb4
  clear hb4 hB_3 fax_3 fay_3 fbx_3 fby_3 pa_2 pb_1 pr_0
  have hl1pa := pa_3.lt
  have hl1pb := pb_2.lt
  have hl1pr := pr_1.lt
  have hl1B := hB_4.size
  obtain ⟨w5, hw5, pw_0, hb5, hs5⟩ := new_box w4 (w4.heap.size) rfl [.bool m1x, .slice o1x n1x c1x, .slice p1x k1x d1x, .bool m1y, .slice o1y n1y c1y, .slice p1y k1y d1y] 42
  have hb5' : Below w4.heap.size w4 w5 := hb5.mono (by omega)
  clear hb5
  have hB_5 := hB_4.trans (hb5'.mono hB_4.size)
  have fax_5 := fax_4.below hb5'
  have fay_5 := fay_4.below hb5'
  have fbx_5 := fbx_4.below hb5'
  have fby_5 := fby_4.below hb5'
  have pa_4 := pa_3.below hb5'
  have pb_3 := pb_2.below hb5'
  have pr_2 := pr_1.below hb5'
  have f1x_1 := f1x_0.below hb5'
  have f1y_1 := f1y_0.below hb5'
  clear hb5' hB_4 fax_4 fay_4 fbx_4 fby_4 pa_3 pb_2 pr_1 f1x_0 f1y_0
  go_wp2
  try rw [hw5]
  have hB_6 := hB_5.drew'
  have fax_6 := fax_5.drew
  have fay_6 := fay_5.drew
  have fbx_6 := fbx_5.drew
  have fby_6 := fby_5.drew
  have pa_5 := pa_4.drew
  have pb_4 := pb_3.drew
  have pr_3 := pr_2.drew
  have f1x_2 := f1x_1.drew
  have f1y_2 := f1y_1.drew
  have pw_1 := pw_0.drew
  clear hB_5 fax_5 fay_5 fbx_5 fby_5 pa_4 pb_3 pr_2 f1x_1 f1y_1 pw_0
  go_region_held3 (fun w' => w'.cell? ⟨w4.heap.size, 0, none⟩ = some (.bool m1x) ∧ w'.cell? ⟨w4.heap.size, 1, none⟩ = some (.slice o1x n1x c1x) ∧ w'.cell? ⟨w4.heap.size, 2, none⟩ = some (.slice p1x k1x d1x) ∧ w'.cell? ⟨w4.heap.size, 3, none⟩ = some (.bool m1y) ∧ w'.cell? ⟨w4.heap.size, 4, none⟩ = some (.slice o1y n1y c1y) ∧ w'.cell? ⟨w4.heap.size, 5, none⟩ = some (.slice p1y k1y d1y))
    (first | with_reducible exact ⟨pw_1.c0, pw_1.c1, pw_1.c2, pw_1.c3, pw_1.c4, pw_1.c5⟩ | with_reducible exact ⟨pw_2.c0, pw_2.c1, pw_2.c2, pw_2.c3, pw_2.c4, pw_2.c5⟩ | with_reducible exact ⟨pw_3.c0, pw_3.c1, pw_3.c2, pw_3.c3, pw_3.c4, pw_3.c5⟩ | with_reducible exact ⟨pw_4.c0, pw_4.c1, pw_4.c2, pw_4.c3, pw_4.c4, pw_4.c5⟩ | with_reducible exact ⟨pw_5.c0, pw_5.c1, pw_5.c2, pw_5.c3, pw_5.c4, pw_5.c5⟩ | fail)
    (first
      | (go_at_call 23; (with_reducible refine (qMul _ _ (Lb + La + 2) (Lb + La + 2) _ _ _ (by have := HLa.out; have := HLb.out; omega) (by have := HLa.out; have := HLb.out; omega) f1x_2.q f1x_2.q).mono ?_); rintro e w6 ⟨m2, o2, n2, c2, p2, k2, d2, rfl, f2_0, hb6⟩; have hB_7 := hB_6.trans (hb6.mono hB_6.size); have fax_7 := fax_6.below hb6; have fay_7 := fay_6.below hb6; have fbx_7 := fbx_6.below hb6; have fby_7 := fby_6.below hb6; have pa_6 := pa_5.below hb6; have pb_5 := pb_4.below hb6; have pr_4 := pr_3.below hb6; have f1x_3 := f1x_2.below hb6; have f1y_3 := f1y_2.below hb6; have pw_2 := pw_1.below hb6; clear hb6 hB_6 fax_6 fay_6 fbx_6 fby_6 pa_5 pb_4 pr_3 f1x_2 f1y_2 pw_1)
      | (go_at_call 23; (with_reducible refine (qMul _ _ (Lb + La + 2) (Lb + La + 2) _ _ _ (by have := HLa.out; have := HLb.out; omega) (by have := HLa.out; have := HLb.out; omega) f1y_3.q f1y_3.q).mono ?_); rintro e w7 ⟨m3, o3, n3, c3, p3, k3, d3, rfl, f3_0, hb7⟩; have hB_8 := hB_7.trans (hb7.mono hB_7.size); have fax_8 := fax_7.below hb7; have fay_8 := fay_7.below hb7; have fbx_8 := fbx_7.below hb7; have fby_8 := fby_7.below hb7; have pa_7 := pa_6.below hb7; have pb_6 := pb_5.below hb7; have pr_5 := pr_4.below hb7; have f1x_4 := f1x_3.below hb7; have f1y_4 := f1y_3.below hb7; have pw_3 := pw_2.below hb7; have f2_1 := f2_0.below hb7; clear hb7 hB_7 fax_7 fay_7 fbx_7 fby_7 pa_6 pb_5 pr_4 f1x_3 f1y_3 pw_2 f2_0)
      | (go_at_call 16; (with_reducible refine (qAdd _ _ ((Lb + La + 2) + (Lb + La + 2) + 2) ((Lb + La + 2) + (Lb + La + 2) + 2) _ _ _ (by have := HLa.out; have := HLb.out; omega) (by have := HLa.out; have := HLb.out; omega) f2_1.q f3_0.q).mono ?_); rintro e w8 ⟨m4, o4, n4, c4, p4, k4, d4, rfl, f4_0, hb8⟩; have hB_9 := hB_8.trans (hb8.mono hB_8.size); have fax_9 := fax_8.below hb8; have fay_9 := fay_8.below hb8; have fbx_9 := fbx_8.below hb8; have fby_9 := fby_8.below hb8; have pa_8 := pa_7.below hb8; have pb_7 := pb_6.below hb8; have pr_6 := pr_5.below hb8; have f1x_5 := f1x_4.below hb8; have f1y_5 := f1y_4.below hb8; have pw_4 := pw_3.below hb8; have f2_2 := f2_1.below hb8; have f3_1 := f3_0.below hb8; clear hb8 hB_8 fax_8 fay_8 fbx_8 fby_8 pa_7 pb_6 pr_5 f1x_4 f1y_4 pw_3 f2_1 f3_0; obtain ⟨sf1a, sf1b, sf1c, sf1d, sf1e, sf1f⟩ := pr_6.open3; obtain ⟨sg1a, sg1b, sg1c, sg1d⟩ := Box.put3 pr_6 (.bool m4) (.slice o4 n4 c4); have hB_10 := below_setAll hB_9 (g := w.heap.size + 1 + 1) (by omega) [.bool m4, .slice o4 n4 c4, .slice p4 k4 d4]; have fax_10 := fax_9.setAll pr_6 (noWord3 _ _ _ _ _ _ _) [.bool m4, .slice o4 n4 c4, .slice p4 k4 d4] rfl; have fay_10 := fay_9.setAll pr_6 (noWord3 _ _ _ _ _ _ _) [.bool m4, .slice o4 n4 c4, .slice p4 k4 d4] rfl; have fbx_10 := fbx_9.setAll pr_6 (noWord3 _ _ _ _ _ _ _) [.bool m4, .slice o4 n4 c4, .slice p4 k4 d4] rfl; have fby_10 := fby_9.setAll pr_6 (noWord3 _ _ _ _ _ _ _) [.bool m4, .slice o4 n4 c4, .slice p4 k4 d4] rfl; have pa_9 := pa_8.farAll (g' := w.heap.size + 1 + 1) (by omega) [.bool m4, .slice o4 n4 c4, .slice p4 k4 d4]; have pb_8 := pb_7.farAll (g' := w.heap.size + 1 + 1) (by omega) [.bool m4, .slice o4 n4 c4, .slice p4 k4 d4]; have f1x_6 := f1x_5.setAll pr_6 (noWord3 _ _ _ _ _ _ _) [.bool m4, .slice o4 n4 c4, .slice p4 k4 d4] rfl; have f1y_6 := f1y_5.setAll pr_6 (noWord3 _ _ _ _ _ _ _) [.bool m4, .slice o4 n4 c4, .slice p4 k4 d4] rfl; have pw_5 := pw_4.farAll (g' := w.heap.size + 1 + 1) (by omega) [.bool m4, .slice o4 n4 c4, .slice p4 k4 d4]; have f2_3 := f2_2.setAll pr_6 (noWord3 _ _ _ _ _ _ _) [.bool m4, .slice o4 n4 c4, .slice p4 k4 d4] rfl; have f3_2 := f3_1.setAll pr_6 (noWord3 _ _ _ _ _ _ _) [.bool m4, .slice o4 n4 c4, .slice p4 k4 d4] rfl; have f4_1 := f4_0.setAll pr_6 (noWord3 _ _ _ _ _ _ _) [.bool m4, .slice o4 n4 c4, .slice p4 k4 d4] rfl; have pr_7 := pr_6.setAll [.bool m4, .slice o4 n4 c4, .slice p4 k4 d4] rfl; simp only [setAll, Nat.zero_add, Nat.reduceAdd] at hB_10 fax_10 fay_10 fbx_10 fby_10 pa_9 pb_8 pr_7 f1x_6 f1y_6 pw_5 f2_3 f3_2 f4_1))
  clear hB_9 fax_9 fay_9 fbx_9 fby_9 pa_8 pb_7 f1x_5 f1y_5 pw_4 f2_2 f3_1 f4_0 pr_6
  clear sf1a sf1b sf1c sf1d sf1e sf1f sg1a sg1b sg1c sg1d
  generalize (World.setCell (World.setCell (World.setCell w8 ⟨w.heap.size + 1 + 1, 0, none⟩ (.bool m4)) ⟨w.heap.size + 1 + 1, 1, none⟩ (.slice o4 n4 c4)) ⟨w.heap.size + 1 + 1, 2, none⟩ (.slice p4 k4 d4)) = w9 at *
  go_wp2
  obtain ⟨pre0, pre1, pre2, pre3, pre4, pre5⟩ := pr_7.open3
  exact bodyPost_ret (v := .agg #[.bool m4, .slice o4 n4 c4, .slice p4 k4 d4]) (by simp [results, Try.results27, go_sem, pre0, pre1, pre2]) rfl ⟨_, _, _, _, _, _, _, rfl, f4_1, hB_10⟩
set_option maxHeartbeats 4000000 in
theorem sAlong_any {axm : Bool} {axo : Option Addr} {axn axc : Nat} {axp : Option Addr} {axk axd : Nat} {aym : Bool} {ayo : Option Addr} {ayn ayc : Nat} {ayp : Option Addr} {ayk ayd : Nat} {bxm : Bool} {bxo : Option Addr} {bxn bxc : Nat} {bxp : Option Addr} {bxk bxd : Nat} {bym : Bool} {byo : Option Addr} {byn byc : Nat} {byp : Option Addr} {byk byd : Nat} {zm : Bool} {zo : Option Addr} {zn zc : Nat} {zp : Option Addr} {zk zd : Nat} (La : Nat) (axq ayq : Rat) (Lb : Nat) (bxq byq : Rat) (Lz : Nat) (zq : Rat) (w : World) (hLa : La ≤ 1000000) (hLb : Lb ≤ 1000000) (hLz : Lz ≤ 1000000) (fax_0 : FQ w (.agg #[.bool axm, .slice axo axn axc, .slice axp axk axd]) La axq) (fay_0 : FQ w (.agg #[.bool aym, .slice ayo ayn ayc, .slice ayp ayk ayd]) La ayq) (fbx_0 : FQ w (.agg #[.bool bxm, .slice bxo bxn bxc, .slice bxp bxk bxd]) Lb bxq) (fby_0 : FQ w (.agg #[.bool bym, .slice byo byn byc, .slice byp byk byd]) Lb byq) (fz_0 : FQ w (.agg #[.bool zm, .slice zo zn zc, .slice zp zk zd]) Lz zq) :
    Calls Try.prog 55 #[.agg #[.bool axm, .slice axo axn axc, .slice axp axk axd, .bool aym, .slice ayo ayn ayc, .slice ayp ayk ayd], .agg #[.bool bxm, .slice bxo bxn bxc, .slice bxp bxk bxd, .bool bym, .slice byo byn byc, .slice byp byk byd], .agg #[.bool zm, .slice zo zn zc, .slice zp zk zd]] w fun e w' => AnsS w w' e (La + (Lz + (Lb + La + 2) + 2) + 2) (axq + zq * (bxq - axq)) (ayq + zq * (byq - ayq)) := by
  have hB_0 := Below.refl w.heap.size w
  have HLa := Lib.hid hLa; have HLb := Lib.hid hLb; have HLz := Lib.hid hLz
  clear hLa hLb hLz
  obtain ⟨w1, hw1, pa_0, hb1, hs1⟩ := new_box w (w.heap.size) rfl [.bool axm, .slice axo axn axc, .slice axp axk axd, .bool aym, .slice ayo ayn ayc, .slice ayp ayk ayd] 42
  have hb1' : Below w.heap.size w w1 := hb1.mono (by omega)
  clear hb1
  have hB_1 := hB_0.trans (hb1'.mono hB_0.size)
  have fax_1 := fax_0.below hb1'
  have fay_1 := fay_0.below hb1'
  have fbx_1 := fbx_0.below hb1'
  have fby_1 := fby_0.below hb1'
  have fz_1 := fz_0.below hb1'
  clear hb1' hB_0 fax_0 fay_0 fbx_0 fby_0 fz_0
  obtain ⟨w2, hw2, pb_0, hb2, hs2⟩ := new_box w1 (w.heap.size + 1) hs1 [.bool bxm, .slice bxo bxn bxc, .slice bxp bxk bxd, .bool bym, .slice byo byn byc, .slice byp byk byd] 42
  have hb2' : Below w1.heap.size w1 w2 := hb2.mono (by omega)
  clear hb2
  have hB_2 := hB_1.trans (hb2'.mono hB_1.size)
  have fax_2 := fax_1.below hb2'
  have fay_2 := fay_1.below hb2'
  have fbx_2 := fbx_1.below hb2'
  have fby_2 := fby_1.below hb2'
  have fz_2 := fz_1.below hb2'
  have pa_1 := pa_0.below hb2'
  clear hb2' hB_1 fax_1 fay_1 fbx_1 fby_1 fz_1 pa_0
  obtain ⟨w3, hw3, pz_0, hb3, hs3⟩ := new_box w2 (w.heap.size + 1 + 1) hs2 [.bool zm, .slice zo zn zc, .slice zp zk zd] 28
  have hb3' : Below w2.heap.size w2 w3 := hb3.mono (by omega)
  clear hb3
  have hB_3 := hB_2.trans (hb3'.mono hB_2.size)
  have fax_3 := fax_2.below hb3'
  have fay_3 := fay_2.below hb3'
  have fbx_3 := fbx_2.below hb3'
  have fby_3 := fby_2.below hb3'
  have fz_3 := fz_2.below hb3'
  have pa_2 := pa_1.below hb3'
  have pb_1 := pb_0.below hb3'
  clear hb3' hB_2 fax_2 fay_2 fbx_2 fby_2 fz_2 pa_1 pb_0
  obtain ⟨w4, hw4, pr_0, hb4, hs4⟩ := new_box w3 (w.heap.size + 1 + 1 + 1) hs3 [.bool false, .slice none 0 0, .slice none 0 0, .bool false, .slice none 0 0, .slice none 0 0] 42
  have hb4' : Below w3.heap.size w3 w4 := hb4.mono (by omega)
  clear hb4
  have hB_4 := hB_3.trans (hb4'.mono hB_3.size)
  have fax_4 := fax_3.below hb4'
  have fay_4 := fay_3.below hb4'
  have fbx_4 := fbx_3.below hb4'
  have fby_4 := fby_3.below hb4'
  have fz_4 := fz_3.below hb4'
  have pa_3 := pa_2.below hb4'
  have pb_2 := pb_1.below hb4'
  have pz_1 := pz_0.below hb4'
  clear hb4' hB_3 fax_3 fay_3 fbx_3 fby_3 fz_3 pa_2 pb_1 pz_0
  go_enter Try.func55, Try.ntmps55
  obtain ⟨pae0, pae1, pae2, pae3, pae4, pae5, pae6, pae7, pae8, pae9, pae10, pae11⟩ := pa_3.open6
  obtain ⟨pbe0, pbe1, pbe2, pbe3, pbe4, pbe5, pbe6, pbe7, pbe8, pbe9, pbe10, pbe11⟩ := pb_2.open6
  go_wp2_with fail
  refine (sAcross_any La axq ayq Lb bxq byq _ (by have := HLa.out; have := HLb.out; omega) (by have := HLa.out; have := HLb.out; omega) fax_4 fay_4 fbx_4 fby_4).mono ?_
  rintro e w5 ⟨m1x, o1x, n1x, c1x, p1x, k1x, d1x, m1y, o1y, n1y, c1y, p1y, k1y, d1y, rfl, f1x_0, f1y_0, hb5⟩
  clear pae0 pae1 pae2 pae3 pae4 pae5 pae6 pae7 pae8 pae9 pae10 pae11 pbe0 pbe1 pbe2 pbe3 pbe4 pbe5 pbe6 pbe7 pbe8 pbe9 pbe10 pbe11
  have hB_5 := hB_4.trans (hb5.mono hB_4.size)
  have fax_5 := fax_4.below hb5
  have fay_5 := fay_4.below hb5
  have fbx_5 := fbx_4.below hb5
  have fby_5 := fby_4.below hb5
  have fz_5 := fz_4.below hb5
  have pa_4 := pa_3.below hb5
  have pb_3 := pb_2.below hb5
  have pz_2 := pz_1.below hb5
  have pr_1 := pr_0.below hb5
  clear hb5 hB_4 fax_4 fay_4 fbx_4 fby_4 fz_4 pa_3 pb_2 pz_1 pr_0
  have hl1pa := pa_4.lt
  have hl1pb := pb_3.lt
  have hl1pz := pz_2.lt
  have hl1pr := pr_1.lt
  have hl1B := hB_5.size
  obtain ⟨w6, hw6, pw_0, hb6, hs6⟩ := new_box w5 (w5.heap.size) rfl [.bool m1x, .slice o1x n1x c1x, .slice p1x k1x d1x, .bool m1y, .slice o1y n1y c1y, .slice p1y k1y d1y] 42
  have hb6' : Below w5.heap.size w5 w6 := hb6.mono (by omega)
  clear hb6
  have hB_6 := hB_5.trans (hb6'.mono hB_5.size)
  have fax_6 := fax_5.below hb6'
  have fay_6 := fay_5.below hb6'
  have fbx_6 := fbx_5.below hb6'
  have fby_6 := fby_5.below hb6'
  have fz_6 := fz_5.below hb6'
  have pa_5 := pa_4.below hb6'
  have pb_4 := pb_3.below hb6'
  have pz_3 := pz_2.below hb6'
  have pr_2 := pr_1.below hb6'
  have f1x_1 := f1x_0.below hb6'
  have f1y_1 := f1y_0.below hb6'
  clear hb6' hB_5 fax_5 fay_5 fbx_5 fby_5 fz_5 pa_4 pb_3 pz_2 pr_1 f1x_0 f1y_0
  go_wp2
  try rw [hw6]
  have hB_7 := hB_6.drew'
  have fax_7 := fax_6.drew
  have fay_7 := fay_6.drew
  have fbx_7 := fbx_6.drew
  have fby_7 := fby_6.drew
  have fz_7 := fz_6.drew
  have pa_6 := pa_5.drew
  have pb_5 := pb_4.drew
  have pz_4 := pz_3.drew
  have pr_3 := pr_2.drew
  have f1x_2 := f1x_1.drew
  have f1y_2 := f1y_1.drew
  have pw_1 := pw_0.drew
  clear hB_6 fax_6 fay_6 fbx_6 fby_6 fz_6 pa_5 pb_4 pz_3 pr_2 f1x_1 f1y_1 pw_0
  go_region_held3 (fun w' => w'.cell? ⟨w5.heap.size, 0, none⟩ = some (.bool m1x) ∧ w'.cell? ⟨w5.heap.size, 1, none⟩ = some (.slice o1x n1x c1x) ∧ w'.cell? ⟨w5.heap.size, 2, none⟩ = some (.slice p1x k1x d1x) ∧ w'.cell? ⟨w5.heap.size, 3, none⟩ = some (.bool m1y) ∧ w'.cell? ⟨w5.heap.size, 4, none⟩ = some (.slice o1y n1y c1y) ∧ w'.cell? ⟨w5.heap.size, 5, none⟩ = some (.slice p1y k1y d1y) ∧ w'.cell? ⟨w.heap.size, 0, none⟩ = some (.bool axm) ∧ w'.cell? ⟨w.heap.size, 1, none⟩ = some (.slice axo axn axc) ∧ w'.cell? ⟨w.heap.size, 2, none⟩ = some (.slice axp axk axd) ∧ w'.cell? ⟨w.heap.size, 3, none⟩ = some (.bool aym) ∧ w'.cell? ⟨w.heap.size, 4, none⟩ = some (.slice ayo ayn ayc) ∧ w'.cell? ⟨w.heap.size, 5, none⟩ = some (.slice ayp ayk ayd) ∧ w'.cell? ⟨w.heap.size + 1 + 1, 0, none⟩ = some (.bool zm) ∧ w'.cell? ⟨w.heap.size + 1 + 1, 1, none⟩ = some (.slice zo zn zc) ∧ w'.cell? ⟨w.heap.size + 1 + 1, 2, none⟩ = some (.slice zp zk zd))
    (first | with_reducible exact ⟨pw_1.c0, pw_1.c1, pw_1.c2, pw_1.c3, pw_1.c4, pw_1.c5, pa_6.c0, pa_6.c1, pa_6.c2, pa_6.c3, pa_6.c4, pa_6.c5, pz_4.c0, pz_4.c1, pz_4.c2⟩ | with_reducible exact ⟨pw_2.c0, pw_2.c1, pw_2.c2, pw_2.c3, pw_2.c4, pw_2.c5, pa_7.c0, pa_7.c1, pa_7.c2, pa_7.c3, pa_7.c4, pa_7.c5, pz_5.c0, pz_5.c1, pz_5.c2⟩ | with_reducible exact ⟨pw_3.c0, pw_3.c1, pw_3.c2, pw_3.c3, pw_3.c4, pw_3.c5, pa_8.c0, pa_8.c1, pa_8.c2, pa_8.c3, pa_8.c4, pa_8.c5, pz_6.c0, pz_6.c1, pz_6.c2⟩ | with_reducible exact ⟨pw_4.c0, pw_4.c1, pw_4.c2, pw_4.c3, pw_4.c4, pw_4.c5, pa_9.c0, pa_9.c1, pa_9.c2, pa_9.c3, pa_9.c4, pa_9.c5, pz_7.c0, pz_7.c1, pz_7.c2⟩ | with_reducible exact ⟨pw_5.c0, pw_5.c1, pw_5.c2, pw_5.c3, pw_5.c4, pw_5.c5, pa_10.c0, pa_10.c1, pa_10.c2, pa_10.c3, pa_10.c4, pa_10.c5, pz_8.c0, pz_8.c1, pz_8.c2⟩ | with_reducible exact ⟨pw_6.c0, pw_6.c1, pw_6.c2, pw_6.c3, pw_6.c4, pw_6.c5, pa_11.c0, pa_11.c1, pa_11.c2, pa_11.c3, pa_11.c4, pa_11.c5, pz_9.c0, pz_9.c1, pz_9.c2⟩ | fail)
    (first
      | (go_at_call 23; (with_reducible refine (qMul _ _ Lz (Lb + La + 2) _ _ _ (by have := HLa.out; have := HLb.out; have := HLz.out; omega) (by have := HLa.out; have := HLb.out; have := HLz.out; omega) fz_7 f1x_2.q).mono ?_); rintro e w7 ⟨m2, o2, n2, c2, p2, k2, d2, rfl, f2_0, hb7⟩; have hB_8 := hB_7.trans (hb7.mono hB_7.size); have fax_8 := fax_7.below hb7; have fay_8 := fay_7.below hb7; have fbx_8 := fbx_7.below hb7; have fby_8 := fby_7.below hb7; have fz_8 := fz_7.below hb7; have pa_7 := pa_6.below hb7; have pb_6 := pb_5.below hb7; have pz_5 := pz_4.below hb7; have pr_4 := pr_3.below hb7; have f1x_3 := f1x_2.below hb7; have f1y_3 := f1y_2.below hb7; have pw_2 := pw_1.below hb7; clear hb7 hB_7 fax_7 fay_7 fbx_7 fby_7 fz_7 pa_6 pb_5 pz_4 pr_3 f1x_2 f1y_2 pw_1)
      | (go_at_call 16; (with_reducible refine (qAdd _ _ La (Lz + (Lb + La + 2) + 2) _ _ _ (by have := HLa.out; have := HLb.out; have := HLz.out; omega) (by have := HLa.out; have := HLb.out; have := HLz.out; omega) fax_8 f2_0.q).mono ?_); rintro e w8 ⟨m3x, o3x, n3x, c3x, p3x, k3x, d3x, rfl, f3x_0, hb8⟩; have hB_9 := hB_8.trans (hb8.mono hB_8.size); have fax_9 := fax_8.below hb8; have fay_9 := fay_8.below hb8; have fbx_9 := fbx_8.below hb8; have fby_9 := fby_8.below hb8; have fz_9 := fz_8.below hb8; have pa_8 := pa_7.below hb8; have pb_7 := pb_6.below hb8; have pz_6 := pz_5.below hb8; have pr_5 := pr_4.below hb8; have f1x_4 := f1x_3.below hb8; have f1y_4 := f1y_3.below hb8; have pw_3 := pw_2.below hb8; have f2_1 := f2_0.below hb8; clear hb8 hB_8 fax_8 fay_8 fbx_8 fby_8 fz_8 pa_7 pb_6 pz_5 pr_4 f1x_3 f1y_3 pw_2 f2_0)
      | (go_at_call 23; (with_reducible refine (qMul _ _ Lz (Lb + La + 2) _ _ _ (by have := HLa.out; have := HLb.out; have := HLz.out; omega) (by have := HLa.out; have := HLb.out; have := HLz.out; omega) fz_9 f1y_4.q).mono ?_); rintro e w9 ⟨m4, o4, n4, c4, p4, k4, d4, rfl, f4_0, hb9⟩; have hB_10 := hB_9.trans (hb9.mono hB_9.size); have fax_10 := fax_9.below hb9; have fay_10 := fay_9.below hb9; have fbx_10 := fbx_9.below hb9; have fby_10 := fby_9.below hb9; have fz_10 := fz_9.below hb9; have pa_9 := pa_8.below hb9; have pb_8 := pb_7.below hb9; have pz_7 := pz_6.below hb9; have pr_6 := pr_5.below hb9; have f1x_5 := f1x_4.below hb9; have f1y_5 := f1y_4.below hb9; have pw_4 := pw_3.below hb9; have f2_2 := f2_1.below hb9; have f3x_1 := f3x_0.below hb9; clear hb9 hB_9 fax_9 fay_9 fbx_9 fby_9 fz_9 pa_8 pb_7 pz_6 pr_5 f1x_4 f1y_4 pw_3 f2_1 f3x_0)
      | (go_at_call 16; (with_reducible refine (qAdd _ _ La (Lz + (Lb + La + 2) + 2) _ _ _ (by have := HLa.out; have := HLb.out; have := HLz.out; omega) (by have := HLa.out; have := HLb.out; have := HLz.out; omega) fay_10 f4_0.q).mono ?_); rintro e w10 ⟨m3y, o3y, n3y, c3y, p3y, k3y, d3y, rfl, f3y_0, hb10⟩; have hB_11 := hB_10.trans (hb10.mono hB_10.size); have fax_11 := fax_10.below hb10; have fay_11 := fay_10.below hb10; have fbx_11 := fbx_10.below hb10; have fby_11 := fby_10.below hb10; have fz_11 := fz_10.below hb10; have pa_10 := pa_9.below hb10; have pb_9 := pb_8.below hb10; have pz_8 := pz_7.below hb10; have pr_7 := pr_6.below hb10; have f1x_6 := f1x_5.below hb10; have f1y_6 := f1y_5.below hb10; have pw_5 := pw_4.below hb10; have f2_3 := f2_2.below hb10; have f3x_2 := f3x_1.below hb10; have f4_1 := f4_0.below hb10; clear hb10 hB_10 fax_10 fay_10 fbx_10 fby_10 fz_10 pa_9 pb_8 pz_7 pr_6 f1x_5 f1y_5 pw_4 f2_2 f3x_1 f4_0; obtain ⟨sf1a, sf1b, sf1c, sf1d, sf1e, sf1f, sf1g, sf1h, sf1i, sf1j, sf1k, sf1l⟩ := pr_7.open6; obtain ⟨sg1a, sg1b, sg1c, sg1d, sg1e, sg1f, sg1g, sg1h, sg1i, sg1j⟩ := Box.put6 pr_7 (.bool m3x) (.slice o3x n3x c3x) (.slice p3x k3x d3x) (.bool m3y) (.slice o3y n3y c3y); have hB_12 := below_setAll hB_11 (g := w.heap.size + 1 + 1 + 1) (by omega) [.bool m3x, .slice o3x n3x c3x, .slice p3x k3x d3x, .bool m3y, .slice o3y n3y c3y, .slice p3y k3y d3y]; have fax_12 := fax_11.setAll pr_7 (noWord6 _ _ _ _ _ _ _ _ _ _ _ _ _ _) [.bool m3x, .slice o3x n3x c3x, .slice p3x k3x d3x, .bool m3y, .slice o3y n3y c3y, .slice p3y k3y d3y] rfl; have fay_12 := fay_11.setAll pr_7 (noWord6 _ _ _ _ _ _ _ _ _ _ _ _ _ _) [.bool m3x, .slice o3x n3x c3x, .slice p3x k3x d3x, .bool m3y, .slice o3y n3y c3y, .slice p3y k3y d3y] rfl; have fbx_12 := fbx_11.setAll pr_7 (noWord6 _ _ _ _ _ _ _ _ _ _ _ _ _ _) [.bool m3x, .slice o3x n3x c3x, .slice p3x k3x d3x, .bool m3y, .slice o3y n3y c3y, .slice p3y k3y d3y] rfl; have fby_12 := fby_11.setAll pr_7 (noWord6 _ _ _ _ _ _ _ _ _ _ _ _ _ _) [.bool m3x, .slice o3x n3x c3x, .slice p3x k3x d3x, .bool m3y, .slice o3y n3y c3y, .slice p3y k3y d3y] rfl; have fz_12 := fz_11.setAll pr_7 (noWord6 _ _ _ _ _ _ _ _ _ _ _ _ _ _) [.bool m3x, .slice o3x n3x c3x, .slice p3x k3x d3x, .bool m3y, .slice o3y n3y c3y, .slice p3y k3y d3y] rfl; have pa_11 := pa_10.farAll (g' := w.heap.size + 1 + 1 + 1) (by omega) [.bool m3x, .slice o3x n3x c3x, .slice p3x k3x d3x, .bool m3y, .slice o3y n3y c3y, .slice p3y k3y d3y]; have pb_10 := pb_9.farAll (g' := w.heap.size + 1 + 1 + 1) (by omega) [.bool m3x, .slice o3x n3x c3x, .slice p3x k3x d3x, .bool m3y, .slice o3y n3y c3y, .slice p3y k3y d3y]; have pz_9 := pz_8.farAll (g' := w.heap.size + 1 + 1 + 1) (by omega) [.bool m3x, .slice o3x n3x c3x, .slice p3x k3x d3x, .bool m3y, .slice o3y n3y c3y, .slice p3y k3y d3y]; have f1x_7 := f1x_6.setAll pr_7 (noWord6 _ _ _ _ _ _ _ _ _ _ _ _ _ _) [.bool m3x, .slice o3x n3x c3x, .slice p3x k3x d3x, .bool m3y, .slice o3y n3y c3y, .slice p3y k3y d3y] rfl; have f1y_7 := f1y_6.setAll pr_7 (noWord6 _ _ _ _ _ _ _ _ _ _ _ _ _ _) [.bool m3x, .slice o3x n3x c3x, .slice p3x k3x d3x, .bool m3y, .slice o3y n3y c3y, .slice p3y k3y d3y] rfl; have pw_6 := pw_5.farAll (g' := w.heap.size + 1 + 1 + 1) (by omega) [.bool m3x, .slice o3x n3x c3x, .slice p3x k3x d3x, .bool m3y, .slice o3y n3y c3y, .slice p3y k3y d3y]; have f2_4 := f2_3.setAll pr_7 (noWord6 _ _ _ _ _ _ _ _ _ _ _ _ _ _) [.bool m3x, .slice o3x n3x c3x, .slice p3x k3x d3x, .bool m3y, .slice o3y n3y c3y, .slice p3y k3y d3y] rfl; have f3x_3 := f3x_2.setAll pr_7 (noWord6 _ _ _ _ _ _ _ _ _ _ _ _ _ _) [.bool m3x, .slice o3x n3x c3x, .slice p3x k3x d3x, .bool m3y, .slice o3y n3y c3y, .slice p3y k3y d3y] rfl; have f4_2 := f4_1.setAll pr_7 (noWord6 _ _ _ _ _ _ _ _ _ _ _ _ _ _) [.bool m3x, .slice o3x n3x c3x, .slice p3x k3x d3x, .bool m3y, .slice o3y n3y c3y, .slice p3y k3y d3y] rfl; have f3y_1 := f3y_0.setAll pr_7 (noWord6 _ _ _ _ _ _ _ _ _ _ _ _ _ _) [.bool m3x, .slice o3x n3x c3x, .slice p3x k3x d3x, .bool m3y, .slice o3y n3y c3y, .slice p3y k3y d3y] rfl; have pr_8 := pr_7.setAll [.bool m3x, .slice o3x n3x c3x, .slice p3x k3x d3x, .bool m3y, .slice o3y n3y c3y, .slice p3y k3y d3y] rfl; simp only [setAll, Nat.zero_add, Nat.reduceAdd] at hB_12 fax_12 fay_12 fbx_12 fby_12 fz_12 pa_11 pb_10 pz_9 pr_8 f1x_7 f1y_7 pw_6 f2_4 f3x_3 f4_2 f3y_1))
  clear hB_11 fax_11 fay_11 fbx_11 fby_11 fz_11 pa_10 pb_9 pz_8 f1x_6 f1y_6 pw_5 f2_3 f3x_2 f4_1 f3y_0 pr_7
  clear sf1a sf1b sf1c sf1d sf1e sf1f sf1g sf1h sf1i sf1j sf1k sf1l sg1a sg1b sg1c sg1d sg1e sg1f sg1g sg1h sg1i sg1j
  generalize (World.setCell (World.setCell (World.setCell (World.setCell (World.setCell (World.setCell w10 ⟨w.heap.size + 1 + 1 + 1, 0, none⟩ (.bool m3x)) ⟨w.heap.size + 1 + 1 + 1, 1, none⟩ (.slice o3x n3x c3x)) ⟨w.heap.size + 1 + 1 + 1, 2, none⟩ (.slice p3x k3x d3x)) ⟨w.heap.size + 1 + 1 + 1, 3, none⟩ (.bool m3y)) ⟨w.heap.size + 1 + 1 + 1, 4, none⟩ (.slice o3y n3y c3y)) ⟨w.heap.size + 1 + 1 + 1, 5, none⟩ (.slice p3y k3y d3y)) = w11 at *
  go_wp2
  obtain ⟨pre0, pre1, pre2, pre3, pre4, pre5, pre6, pre7, pre8, pre9, pre10, pre11⟩ := pr_8.open6
  exact bodyPost_ret (v := .agg #[.bool m3x, .slice o3x n3x c3x, .slice p3x k3x d3x, .bool m3y, .slice o3y n3y c3y, .slice p3y k3y d3y]) (by simp [results, Try.results55, go_sem, pre0, pre1, pre2, pre3, pre4, pre5]) rfl ⟨_, _, _, _, _, _, _, _, _, _, _, _, _, _, rfl, f3x_3, f3y_1, hB_12⟩
end Go.Proofs.Ytdfabocecpcmcaa
/- Convex polygons over Rat: what lies within is a mean of three corners. Over no program; written ahead of layer 8's code. -/
namespace Go.Proofs.Ytdfabocecpcmcaa
open Go.MagM
/-- Twice the area of a triangle. -/
def crossQ (a b s : Rat × Rat) : Rat := (b.1 - a.1) * (s.2 - a.2) - (b.2 - a.2) * (s.1 - a.1)
theorem crossQ_cyc (a b s : Rat × Rat) : crossQ b s a = crossQ a b s := by unfold crossQ; grind
theorem crossQ_swap (a b s : Rat × Rat) : crossQ b a s = -crossQ a b s := by unfold crossQ; grind
theorem crossQ_aab (a s : Rat × Rat) : crossQ a a s = 0 := by unfold crossQ; grind
theorem crossQ_aba (a b : Rat × Rat) : crossQ a b a = 0 := by unfold crossQ; grind
theorem crossQ_abb (a b : Rat × Rat) : crossQ a b b = 0 := by unfold crossQ; grind
theorem side_cross (a b s : Rat × Rat) : sideQ a.1 a.2 b.1 b.2 s.1 s.2 = qcmp (crossQ a b s) 0 := by unfold sideQ; rw [qcmp_sub]; rfl
/-- Corner i, going round. -/
def cor (l : List (Rat × Rat)) (i : Nat) : Rat × Rat := l.getD (i % l.length) (0, 0)
theorem cor_add (l : List (Rat × Rat)) (i : Nat) : cor l (i + l.length) = cor l i := by unfold cor; rw [Nat.add_mod_right]
/-- A convex polygon of three corners or more: each corner lies strictly to the left of each side of which it is no end. -/
def Conv (l : List (Rat × Rat)) : Prop := 3 ≤ l.length ∧ ∀ i k, i < l.length → k < l.length → k ≠ i → k ≠ (i + 1) % l.length → 0 < crossQ (cor l i) (cor l (i + 1)) (cor l k)
/-- A point within, or on the border. -/
def InL (l : List (Rat × Rat)) (s : Rat × Rat) : Prop := 0 < l.length ∧ ∀ i, i < l.length → 0 ≤ crossQ (cor l i) (cor l (i + 1)) s
/-- A sign that turns. -/
theorem turn_at (c : Nat → Rat) : ∀ n, 0 ≤ c 1 → c (n + 2) ≤ 0 → ∃ i, 1 ≤ i ∧ i ≤ n + 1 ∧ 0 ≤ c i ∧ c (i + 1) ≤ 0
  | 0, h1, h2 => ⟨1, by omega, by omega, h1, h2⟩
  | n + 1, h1, h2 => by
    by_cases h : c (n + 2) ≤ 0
    · obtain ⟨i, a, b, d, e⟩ := turn_at c n h1 h
      exact ⟨i, a, by omega, d, e⟩
    · exact ⟨n + 2, by omega, by omega, by grind, h2⟩
theorem mean_le {a b v s : Rat × Rat} {A B C : Rat} (hD : 0 < crossQ a b v) (h1 : 0 ≤ crossQ b v s) (h2 : 0 ≤ crossQ v a s) (h3 : 0 ≤ crossQ a b s)
    (ha : A * a.1 + B * a.2 ≤ C) (hb : A * b.1 + B * b.2 ≤ C) (hv : A * v.1 + B * v.2 ≤ C) : A * s.1 + B * s.2 ≤ C := by
  have e : crossQ a b v * (C - (A * s.1 + B * s.2)) = crossQ b v s * (C - (A * a.1 + B * a.2)) + crossQ v a s * (C - (A * b.1 + B * b.2)) + crossQ a b s * (C - (A * v.1 + B * v.2)) := by unfold crossQ; grind
  have k1 := Rat.mul_nonneg h1 (show 0 ≤ C - (A * a.1 + B * a.2) by grind)
  have k2 := Rat.mul_nonneg h2 (show 0 ≤ C - (A * b.1 + B * b.2) by grind)
  have k3 := Rat.mul_nonneg h3 (show 0 ≤ C - (A * v.1 + B * v.2) by grind)
  have k : 0 ≤ crossQ a b v * (C - (A * s.1 + B * s.2)) := by rw [e]; grind
  by_cases h : A * s.1 + B * s.2 ≤ C
  · exact h
  · have := Rat.mul_pos hD (show 0 < (A * s.1 + B * s.2) - C by grind)
    grind
/-- What lies within lies in a triangle of the first corner and two neighbours. -/
theorem fan_in {l : List (Rat × Rat)} (hc : Conv l) {s : Rat × Rat} (hs : InL l s) :
    ∃ i, 1 ≤ i ∧ i + 1 < l.length ∧ 0 < crossQ (cor l 0) (cor l i) (cor l (i + 1)) ∧ 0 ≤ crossQ (cor l i) (cor l (i + 1)) s ∧ 0 ≤ crossQ (cor l (i + 1)) (cor l 0) s ∧ 0 ≤ crossQ (cor l 0) (cor l i) s := by
  obtain ⟨h3, hc⟩ := hc
  obtain ⟨m, hm⟩ : ∃ m, l.length = m + 3 := ⟨l.length - 3, by omega⟩
  have h0 := hs.2 0 (by omega)
  have h1 := hs.2 (m + 2) (by omega)
  have e0 : cor l (m + 2 + 1) = cor l 0 := by have := cor_add l 0; rw [hm, Nat.zero_add] at this; exact this
  rw [e0, crossQ_swap] at h1
  obtain ⟨i, a, b, d, e⟩ := turn_at (fun j => crossQ (cor l 0) (cor l j) s) m h0 (by grind)
  refine ⟨i, a, by omega, ?_, hs.2 i (by omega), ?_, d⟩
  · have := hc i 0 (by omega) (by omega) (by omega) (by rw [Nat.mod_eq_of_lt (by omega)]; omega)
    rw [crossQ_cyc] at this; exact this
  · rw [crossQ_swap]; grind
/-- What holds for all corners holds within. -/
theorem hull_le {l : List (Rat × Rat)} (hc : Conv l) {s : Rat × Rat} (hs : InL l s) {A B C : Rat} (h : ∀ i, i < l.length → A * (cor l i).1 + B * (cor l i).2 ≤ C) : A * s.1 + B * s.2 ≤ C := by
  obtain ⟨i, h1, h2, hD, w0, w1, w2⟩ := fan_in hc hs
  exact mean_le hD w0 w1 w2 (h 0 (by omega)) (h i (by omega)) (h (i + 1) (by omega))
end Go.Proofs.Ytdfabocecpcmcaa
/- Convex polygons by their triples: any three corners, in their order, turn left. Over no program; written ahead of layer 8's code. -/
namespace Go.Proofs.Ytdfabocecpcmcaa
open Go.MagM
/-- Any three of them, in their order, turn left. -/
def Tri (l : List (Rat × Rat)) : Prop := ∀ a b c, List.Sublist [a, b, c] l → 0 < crossQ a b c
theorem Tri.sub {l k : List (Rat × Rat)} (h : Tri l) (hs : List.Sublist k l) : Tri k := fun a b c h1 => h a b c (h1.trans hs)
theorem Tri.rot {u v : List (Rat × Rat)} (h : Tri (u ++ v)) : Tri (v ++ u) := by
  intro a b c hs
  obtain ⟨l1, l2, e, h1, h2⟩ := List.sublist_append_iff.1 hs
  match l1, e, h1 with
  | [], e, h1 =>
    simp at e; subst e
    exact h a b c (h2.trans (List.sublist_append_left u v))
  | [x], e, h1 =>
    simp at e; obtain ⟨rfl, rfl⟩ := e
    have := h b c a (by simpa using h2.append h1)
    rwa [crossQ_cyc] at this
  | [x, y], e, h1 =>
    simp at e; obtain ⟨rfl, rfl, rfl⟩ := e
    have := h c a b (by simpa using h2.append h1)
    rwa [crossQ_cyc, crossQ_cyc] at this
  | [x, y, z], e, h1 =>
    simp at e; obtain ⟨rfl, rfl, rfl, rfl⟩ := e
    exact h _ _ _ (h1.trans (List.sublist_append_right u v))
  | x :: y :: z :: t :: r, e, h1 => simp at e
/-- By places: the same. -/
theorem Tri.at {l : List (Rat × Rat)} (h : Tri l) {i j k : Nat} (hij : i < j) (hjk : j < k) (hk : k < l.length) : 0 < crossQ (cor l i) (cor l j) (cor l k) := by
  apply h
  have e : ∀ m, m < l.length → cor l m = l[m]?.getD (0, 0) := fun m hm => by unfold cor; rw [Nat.mod_eq_of_lt hm, List.getD_eq_getElem?_getD]
  rw [e i (by omega), e j (by omega), e k hk]
  have s1 : List.Sublist [l[i]?.getD (0, 0)] (l.take j) := by
    rw [List.singleton_sublist, List.getElem?_eq_getElem (by omega)]
    exact List.mem_take_iff_getElem.2 ⟨i, by omega, rfl⟩
  have s2 : List.Sublist [l[j]?.getD (0, 0), l[k]?.getD (0, 0)] (l.drop j) := by
    rw [List.drop_eq_getElem_cons (by omega), List.getElem?_eq_getElem (by omega : j < l.length)]
    refine List.Sublist.cons_cons _ ?_
    rw [List.singleton_sublist, List.getElem?_eq_getElem hk]
    exact List.mem_drop_iff_getElem.2 ⟨k - (j + 1), by omega, by simp only [Option.getD_some]; congr 1; omega⟩
  have := s1.append s2
  rwa [List.take_append_drop] at this
theorem tri_of {l : List (Rat × Rat)} (h : ∀ i j k, i < j → j < k → k < l.length → 0 < crossQ (cor l i) (cor l j) (cor l k)) : Tri l := by
  intro a b c hs
  obtain ⟨is, hi, hp⟩ := List.sublist_eq_map_getElem hs
  match is, hi, hp with
  | [i, j, k], hi, hp =>
    simp at hi hp
    obtain ⟨rfl, rfl, rfl⟩ := hi
    have e : ∀ m : Fin l.length, cor l m.1 = l[m.1] := fun m => by unfold cor; rw [Nat.mod_eq_of_lt m.2, List.getD_eq_getElem?_getD, List.getElem?_eq_getElem m.2]; rfl
    have := h i.1 j.1 k.1 hp.1.1 hp.2 k.2
    rwa [e, e, e] at this
  | [], hi, _ => simp at hi
  | [_], hi, _ => simp at hi
  | [_, _], hi, _ => simp at hi
  | _ :: _ :: _ :: _ :: _, hi, _ => simp at hi
/-- Directions that turn left one behind the other, all to the left of one: the last one is to the left of the first one. -/
theorem cross_trans {o e u v w : Rat × Rat} (h1 : 0 ≤ crossQ o e u) (h2 : 0 < crossQ o e v) (h3 : 0 < crossQ o e w) (h4 : 0 < crossQ o u v) (h5 : 0 < crossQ o v w) : 0 < crossQ o u w := by
  have id1 : crossQ o e v * crossQ o u w = crossQ o e u * crossQ o v w + crossQ o e w * crossQ o u v := by unfold crossQ; grind
  have k1 := Rat.mul_nonneg h1 (Rat.le_of_lt h5)
  have k2 := Rat.mul_pos h3 h4
  by_cases h : 0 < crossQ o u w
  · exact h
  · have := Rat.mul_nonneg (Rat.le_of_lt h2) (show 0 ≤ -crossQ o u w by grind)
    grind
theorem cor_lt {l : List (Rat × Rat)} {i : Nat} (h : i + 1 < l.length) : (i + 1) % l.length = i + 1 := Nat.mod_eq_of_lt h
/-- Of a convex polygon any three corners turn left. -/
theorem Conv.tri {l : List (Rat × Rat)} (h : Conv l) : Tri l := by
  obtain ⟨h3, hc⟩ := h
  apply tri_of
  intro i j k hij
  have edge : ∀ m, i < m → m + 1 < l.length → 0 < crossQ (cor l i) (cor l m) (cor l (m + 1)) := fun m hm hl => by
    have := hc m i (by omega) (by omega) (by omega) (by rw [cor_lt hl]; omega)
    rw [crossQ_cyc] at this; exact this
  have first : ∀ m, i + 1 < m → m < l.length → 0 < crossQ (cor l i) (cor l (i + 1)) (cor l m) := fun m hm hl => hc i m (by omega) hl (by omega) (by rw [cor_lt (by omega)]; omega)
  induction k with
  | zero => intro h; omega
  | succ k ih =>
    intro hjk hk
    by_cases e : j = k
    · subst e; exact edge j hij hk
    · by_cases e2 : j = i + 1
      · subst e2; exact first (k + 1) (by omega) hk
      · exact cross_trans (e := cor l (i + 1)) (Rat.le_of_lt (first j (by omega) (by omega))) (first k (by omega) (by omega)) (first (k + 1) (by omega) hk) (ih (by omega) (by omega)) (edge k (by omega) hk)
theorem Tri.conv {l : List (Rat × Rat)} (h : Tri l) (h3 : 3 ≤ l.length) : Conv l := by
  refine ⟨h3, fun i k hi hk h1 h2 => ?_⟩
  by_cases hl : i + 1 < l.length
  · rw [cor_lt hl] at h2
    rcases Nat.lt_or_ge k i with h4 | h4
    · rw [crossQ_cyc]; exact h.at h4 (by omega) hl
    · exact h.at (by omega) (by omega) hk
  · obtain rfl : i = l.length - 1 := by omega
    have e : l.length - 1 + 1 = 0 + l.length := by omega
    rw [e, Nat.zero_add, Nat.mod_self] at h2
    rw [e, cor_add]
    have := h.at (i := 0) (j := k) (k := l.length - 1) (by omega) (by omega) (by omega)
    rw [crossQ_cyc, crossQ_cyc]; exact this
/-- Of four corners, in their order, those across can't part the line's sides. -/
theorem four_sides {a b c d : Rat × Rat} {A B C : Rat} (h1 : 0 < crossQ a b c) (h2 : 0 < crossQ a b d) (h3 : 0 < crossQ a c d) (h4 : 0 < crossQ b c d)
    (ha : A * a.1 + B * a.2 ≤ C) (hc : A * c.1 + B * c.2 ≤ C) (hb : C < A * b.1 + B * b.2) : A * d.1 + B * d.2 ≤ C := by
  have e : crossQ b c d * (A * a.1 + B * a.2 - C) + crossQ a b d * (A * c.1 + B * c.2 - C) = crossQ a c d * (A * b.1 + B * b.2 - C) + crossQ a b c * (A * d.1 + B * d.2 - C) := by unfold crossQ; grind
  have k1 := Rat.mul_nonneg (Rat.le_of_lt h4) (show 0 ≤ C - (A * a.1 + B * a.2) by grind)
  have k2 := Rat.mul_nonneg (Rat.le_of_lt h2) (show 0 ≤ C - (A * c.1 + B * c.2) by grind)
  have k3 := Rat.mul_pos h3 (show 0 < A * b.1 + B * b.2 - C by grind)
  by_cases h : A * d.1 + B * d.2 ≤ C
  · exact h
  · have := Rat.mul_pos h1 (show 0 < A * d.1 + B * d.2 - C by grind)
    grind
end Go.Proofs.Ytdfabocecpcmcaa
/- Convex polygons that hold the same points are the same list, begun elsewhere. Over no program; written ahead of layer 8's code. -/
namespace Go.Proofs.Ytdfabocecpcmcaa
open Go.MagM
theorem cor_get {l : List (Rat × Rat)} {i : Nat} (h : i < l.length) : cor l i = l[i] := by unfold cor; rw [Nat.mod_eq_of_lt h, List.getD_eq_getElem?_getD, List.getElem?_eq_getElem h]; rfl
theorem Tri.nodup {l : List (Rat × Rat)} (h : Tri l) (h3 : 3 ≤ l.length) : l.Nodup := by
  unfold List.Nodup
  rw [List.pairwise_iff_getElem]
  intro i j hi hj hij e
  rw [← cor_get hi, ← cor_get hj] at e
  by_cases h1 : j + 1 < l.length
  · have := h.at (i := i) (j := j) (k := j + 1) hij (by omega) h1
    rw [e, crossQ_aab] at this; exact Rat.lt_irrefl this
  · by_cases h2 : i + 1 < j
    · have := h.at (i := i) (j := i + 1) (k := j) (by omega) h2 hj
      rw [e, crossQ_aba] at this; exact Rat.lt_irrefl this
    · have := h.at (i := 0) (j := i) (k := j) (by omega) hij hj
      rw [e, crossQ_abb] at this; exact Rat.lt_irrefl this
/-- The same corners, each turning left: the same list, begun elsewhere. -/
theorem tri_perm {P Q : List (Rat × Rat)} (hP : Tri P) (hQ : Tri Q) (h0 : 0 < P.length) (hp : P.Perm Q) : ∃ u v, P = u ++ v ∧ Q = v ++ u := by
  match P, h0 with
  | p :: P', _ =>
    have hm : p ∈ Q := hp.mem_iff.1 (by simp)
    obtain ⟨s, t, rfl⟩ := List.append_of_mem hm
    have hQ' : Tri ((p :: t) ++ s) := hQ.rot
    have hp2 : (p :: P').Perm (p :: (t ++ s)) := hp.trans (List.perm_append_comm.trans (by simp))
    have hp3 := (List.perm_cons p).1 hp2
    have pw : ∀ l : List (Rat × Rat), Tri (p :: l) → l.Pairwise (fun a b => 0 < crossQ p a b) := fun l hl =>
      List.pairwise_iff_forall_sublist.2 fun {a b} hs => hl p a b (List.Sublist.cons_cons _ hs)
    have e := hp3.eq_of_pairwise (le := fun a b => 0 < crossQ p a b) (fun a b _ _ h1 h2 => by
      exfalso
      have e : crossQ p b a = -crossQ p a b := by unfold crossQ; grind
      rw [e] at h2; grind) (pw P' hP) (pw (t ++ s) hQ')
    exact ⟨p :: t, s, by rw [e]; rfl, rfl⟩
/-- Areas, along the corners. -/
def det (a b : Rat × Rat) : Rat := a.1 * b.2 - a.2 * b.1
def dsum : List (Rat × Rat) → Rat
  | a :: b :: t => det a b + dsum (b :: t)
  | _ => 0
theorem dsum_split (x : Rat × Rat) (v : List (Rat × Rat)) : ∀ u, dsum (u ++ x :: v) = dsum (u ++ [x]) + dsum (x :: v)
  | [] => by simp [dsum, Rat.zero_add]
  | [a] => by simp [dsum, Rat.add_zero]
  | a :: b :: u => by
    have := dsum_split x v (b :: u)
    simp only [List.cons_append, dsum] at this ⊢
    rw [this, Rat.add_assoc]
def rsum (f : Nat → Rat) : Nat → Rat
  | 0 => 0
  | n + 1 => rsum f n + f n
theorem rsum_shift (f : Nat → Rat) : ∀ n, rsum f (n + 1) = f 0 + rsum (fun i => f (i + 1)) n
  | 0 => by simp [rsum, Rat.add_zero, Rat.zero_add]
  | n + 1 => by rw [rsum, rsum_shift f n, rsum, Rat.add_assoc]
theorem rsum_congr {f g : Nat → Rat} : ∀ n, (∀ i, i < n → f i = g i) → rsum f n = rsum g n
  | 0, _ => rfl
  | n + 1, h => by rw [rsum, rsum, rsum_congr n (fun i hi => h i (by omega)), h n (by omega)]
theorem fold_rsum (f : Nat → Rat) : ∀ n, ((List.range n).map f).foldl (· + ·) 0 = rsum f n
  | 0 => rfl
  | n + 1 => by rw [List.range_succ, List.map_append, List.foldl_append, fold_rsum f n]; rfl
theorem dsum_rsum : ∀ l : List (Rat × Rat), dsum l = rsum (fun i => det (l.getD i (0, 0)) (l.getD (i + 1) (0, 0))) (l.length - 1)
  | [] => rfl
  | [a] => rfl
  | a :: b :: t => by
    rw [dsum, dsum_rsum (b :: t)]
    have := rsum_shift (fun i => det ((a :: b :: t).getD i (0, 0)) ((a :: b :: t).getD (i + 1) (0, 0))) t.length
    simp only [List.length_cons, Nat.add_sub_cancel] at this ⊢
    rw [this]; rfl
theorem area_dsum (a : Rat × Rat) (l : List (Rat × Rat)) : areaQ (a :: l) = dsum (a :: l ++ [a]) := by
  unfold areaQ
  rw [fold_rsum, dsum_rsum]
  have hl : (a :: l ++ [a]).length - 1 = (a :: l).length := by simp
  rw [hl]
  apply rsum_congr
  intro i hi
  unfold termQ det
  have e1 : (a :: l ++ [a]).getD i (0, 0) = (a :: l).getD i (0, 0) := by
    rw [List.getD_eq_getElem?_getD, List.getD_eq_getElem?_getD, List.getElem?_append_left hi]
  have e2 : (a :: l ++ [a]).getD (i + 1) (0, 0) = (a :: l).getD ((i + 1) % (a :: l).length) (0, 0) := by
    by_cases h : i + 1 < (a :: l).length
    · rw [Nat.mod_eq_of_lt h, List.getD_eq_getElem?_getD, List.getD_eq_getElem?_getD, List.getElem?_append_left h]
    · have h2 : i + 1 = (a :: l).length := by omega
      rw [h2, Nat.mod_self, List.getD_eq_getElem?_getD, List.getElem?_append_right (Nat.le_refl _), Nat.sub_self]; rfl
  rw [e1, e2]
theorem area_rot (u v : List (Rat × Rat)) : areaQ (v ++ u) = areaQ (u ++ v) := by
  match u, v with
  | [], v => simp
  | u, [] => simp
  | a :: u, b :: v =>
    have h1 := area_dsum a (u ++ b :: v)
    have h2 := area_dsum b (v ++ a :: u)
    rw [show (b :: v) ++ (a :: u) = b :: (v ++ a :: u) from rfl, h2, show (a :: u) ++ (b :: v) = a :: (u ++ b :: v) from rfl, h1]
    have k1 := dsum_split a (u ++ [b]) (b :: v)
    have k2 := dsum_split b (v ++ [a]) (a :: u)
    simp only [List.cons_append, List.append_assoc] at k1 k2 ⊢
    rw [k1, k2, Rat.add_comm]
/-- Corners lie within. -/
theorem corner_in {l : List (Rat × Rat)} (hc : Conv l) {k : Nat} (hk : k < l.length) : InL l (cor l k) := by
  refine ⟨by omega, fun i hi => ?_⟩
  by_cases h1 : k = i
  · subst h1; rw [crossQ_aba]; exact Rat.le_refl
  · by_cases h2 : k = (i + 1) % l.length
    · have e : cor l (i + 1) = cor l k := by unfold cor; rw [← h2, Nat.mod_eq_of_lt hk]
      rw [e, crossQ_abb]; exact Rat.le_refl
    · exact Rat.le_of_lt (hc.2 i k hi hk h1 h2)
theorem line_meet {o a b s t : Rat × Rat} (hD : 0 < crossQ a o b) (h1 : crossQ a o s = 0) (h2 : crossQ o b s = 0) (h3 : crossQ a o t = 0) (h4 : crossQ o b t = 0) : s = t := by
  have e1 : crossQ a o b * (s.1 - t.1) = (crossQ o b s - crossQ o b t) * (a.1 - o.1) + (crossQ a o s - crossQ a o t) * (b.1 - o.1) := by unfold crossQ; grind
  have e2 : crossQ a o b * (s.2 - t.2) = (crossQ o b s - crossQ o b t) * (a.2 - o.2) + (crossQ a o s - crossQ a o t) * (b.2 - o.2) := by unfold crossQ; grind
  rw [h1, h2, h3, h4] at e1 e2
  have hne : crossQ a o b ≠ 0 := by grind
  have z : ∀ x : Rat, crossQ a o b * x = 0 → x = 0 := fun x hx => by
    rcases Rat.mul_eq_zero.1 hx with h | h
    · exact absurd h hne
    · exact h
  have f1 := z (s.1 - t.1) (by rw [e1]; grind)
  have f2 := z (s.2 - t.2) (by rw [e2]; grind)
  exact Prod.ext (by grind) (by grind)
end Go.Proofs.Ytdfabocecpcmcaa
/- Convex polygons that hold the same points: as many corners, the same area. Over no program; written ahead of layer 8's code. -/
namespace Go.Proofs.Ytdfabocecpcmcaa
open Go.MagM
theorem cor_mod (l : List (Rat × Rat)) (i : Nat) : cor l (i % l.length) = cor l i := by unfold cor; rw [Nat.mod_mod]
/-- A corner is the midst of no two other points that lie within. -/
theorem corner_ext {l : List (Rat × Rat)} (hc : Conv l) {k : Nat} (hk : k < l.length) {a b : Rat × Rat} (ha : InL l a) (hb : InL l b) (h1 : a.1 + b.1 = 2 * (cor l k).1) (h2 : a.2 + b.2 = 2 * (cor l k).2) : a = b := by
  obtain ⟨j, hj, hjk⟩ : ∃ j, j < l.length ∧ (j + 1) % l.length = k := by
    by_cases h0 : k = 0
    · subst h0
      exact ⟨l.length - 1, by omega, by rw [show l.length - 1 + 1 = l.length by omega, Nat.mod_self]⟩
    · exact ⟨k - 1, by omega, by rw [show k - 1 + 1 = k by omega, Nat.mod_eq_of_lt hk]⟩
  have h3 := hc.1
  have ej : cor l (j + 1) = cor l k := by rw [← cor_mod, hjk]
  have hk2 : (k + 1) % l.length < l.length := Nat.mod_lt _ (by omega)
  have hD : 0 < crossQ (cor l j) (cor l k) (cor l (k + 1)) := by
    have hne1 : (k + 1) % l.length ≠ j := by
      intro e
      by_cases h : k + 1 < l.length
      · rw [Nat.mod_eq_of_lt h] at e; subst e
        by_cases h' : k + 1 + 1 < l.length
        · rw [Nat.mod_eq_of_lt h'] at hjk; omega
        · rw [show k + 1 + 1 = l.length by omega, Nat.mod_self] at hjk; omega
      · rw [show k + 1 = l.length by omega, Nat.mod_self] at e; subst e
        rw [Nat.mod_eq_of_lt (by omega)] at hjk; omega
    have hne2 : (k + 1) % l.length ≠ (j + 1) % l.length := by
      rw [hjk]
      intro e
      by_cases h : k + 1 < l.length
      · rw [Nat.mod_eq_of_lt h] at e; omega
      · rw [show k + 1 = l.length by omega, Nat.mod_self] at e; omega
    have := hc.2 j ((k + 1) % l.length) hj hk2 hne1 hne2
    rwa [ej, cor_mod] at this
  have a1 := ha.2 j hj
  have b1 := hb.2 j hj
  have a2 := ha.2 k hk
  have b2 := hb.2 k hk
  rw [ej] at a1 b1
  generalize cor l j = x at *
  generalize cor l k = o at *
  generalize cor l (k + 1) = y at *
  have s1 : crossQ x o a + crossQ x o b = 0 := by unfold crossQ; grind
  have s2 : crossQ o y a + crossQ o y b = 0 := by unfold crossQ; grind
  exact line_meet hD (by grind) (by grind) (by grind) (by grind)
/-- A point with two weights can be moved to and fro. -/
theorem slide {l : List (Rat × Rat)} {x y z v : Rat × Rat} (hx : InL l x) (hy : InL l y) (hz : InL l z) (hD : 0 < crossQ x y z) (w1 : 0 < crossQ y z v) (w2 : 0 < crossQ z x v) (w3 : 0 ≤ crossQ x y v) :
    ∃ a b, InL l a ∧ InL l b ∧ a.1 + b.1 = 2 * v.1 ∧ a.2 + b.2 = 2 * v.2 ∧ a ≠ b := by
  obtain ⟨m, hm0, hm1, hm2⟩ : ∃ m : Rat, 0 < m ∧ m ≤ crossQ y z v ∧ m ≤ crossQ z x v := by
    by_cases h : crossQ y z v ≤ crossQ z x v
    · exact ⟨_, w1, Rat.le_refl, h⟩
    · exact ⟨_, w2, by grind, Rat.le_refl⟩
  have hne : crossQ x y z ≠ 0 := by grind
  have he : m / crossQ x y z * crossQ x y z = m := Rat.div_mul_cancel hne
  have he0 : m / crossQ x y z ≠ 0 := by intro h; rw [h, Rat.zero_mul] at he; grind
  obtain ⟨e, hE⟩ : ∃ e, m / crossQ x y z = e := ⟨_, rfl⟩
  rw [hE] at he he0
  have go : ∀ t : Rat, (t = e ∨ t = -e) → InL l (v.1 + t * (x.1 - y.1), v.2 + t * (x.2 - y.2)) := by
    intro t ht
    refine ⟨hx.1, fun i hi => ?_⟩
    have g1 := hx.2 i hi
    have g2 := hy.2 i hi
    have g3 := hz.2 i hi
    generalize cor l i = p at *
    generalize cor l (i + 1) = q at *
    have id1 : crossQ x y z * crossQ p q (v.1 + t * (x.1 - y.1), v.2 + t * (x.2 - y.2)) = (crossQ y z v + t * crossQ x y z) * crossQ p q x + (crossQ z x v - t * crossQ x y z) * crossQ p q y + crossQ x y v * crossQ p q z := by unfold crossQ; grind
    have n1 : 0 ≤ crossQ y z v + t * crossQ x y z := by rcases ht with h | h <;> subst h <;> grind
    have n2 : 0 ≤ crossQ z x v - t * crossQ x y z := by rcases ht with h | h <;> subst h <;> grind
    have k1 := Rat.mul_nonneg n1 g1
    have k2 := Rat.mul_nonneg n2 g2
    have k3 := Rat.mul_nonneg w3 g3
    have k : 0 ≤ crossQ x y z * crossQ p q (v.1 + t * (x.1 - y.1), v.2 + t * (x.2 - y.2)) := by rw [id1]; grind
    generalize crossQ p q (v.1 + t * (x.1 - y.1), v.2 + t * (x.2 - y.2)) = r at *
    by_cases h : 0 ≤ r
    · exact h
    · have := Rat.mul_pos hD (show 0 < -r by grind)
      grind
  refine ⟨_, _, go e (.inl rfl), go (-e) (.inr rfl), by simp only []; grind, by simp only []; grind, fun h => ?_⟩
  have h1 := congrArg Prod.fst h
  have h2 := congrArg Prod.snd h
  simp only [] at h1 h2
  have z0 : ∀ d : Rat, e * d = -e * d → d = 0 := fun d hd => by
    have : e * d = 0 := by grind
    rcases Rat.mul_eq_zero.1 this with h | h
    · exact absurd h he0
    · exact h
  have d1 := z0 (x.1 - y.1) (by grind)
  have d2 := z0 (x.2 - y.2) (by grind)
  have : crossQ x y z = 0 := by unfold crossQ; grind
  exact hne this
/-- What is the midst of no two other points that lie within is a corner. -/
theorem ext_corner {l : List (Rat × Rat)} (hc : Conv l) {v : Rat × Rat} (hv : InL l v) (he : ∀ a b, InL l a → InL l b → a.1 + b.1 = 2 * v.1 → a.2 + b.2 = 2 * v.2 → a = b) : v ∈ l := by
  obtain ⟨i, h1, h2, hD, w0, w1, w2⟩ := fan_in hc hv
  have m0 : cor l 0 ∈ l := by rw [cor_get (by omega)]; exact List.getElem_mem _
  have mi : cor l i ∈ l := by rw [cor_get (by omega)]; exact List.getElem_mem _
  have mj : cor l (i + 1) ∈ l := by rw [cor_get (by omega)]; exact List.getElem_mem _
  have c0 := corner_in hc (k := 0) (by omega)
  have ci := corner_in hc (k := i) (by omega)
  have cj := corner_in hc (k := i + 1) (by omega)
  generalize cor l 0 = x at *
  generalize cor l i = y at *
  generalize cor l (i + 1) = z at *
  have hD2 : 0 < crossQ y z x := by rw [crossQ_cyc]; exact hD
  have hD3 : 0 < crossQ z x y := by rw [crossQ_cyc, crossQ_cyc]; exact hD
  have no : ∀ {x y z : Rat × Rat}, InL l x → InL l y → InL l z → 0 < crossQ x y z → 0 < crossQ y z v → 0 ≤ crossQ x y v → ¬ 0 < crossQ z x v := fun hx hy hz h a b k => by
    obtain ⟨p, q, i1, i2, e1, e2, ne⟩ := slide hx hy hz h a k b
    exact ne (he p q i1 i2 e1 e2)
  have sum : crossQ y z v + crossQ z x v + crossQ x y v = crossQ x y z := by unfold crossQ; grind
  by_cases p0 : 0 < crossQ y z v
  · have q1 : crossQ z x v = 0 := by have := no c0 ci cj hD p0 w2; grind
    have q2 : crossQ x y v = 0 := by
      by_cases h : 0 < crossQ x y v
      · exact absurd p0 (no cj c0 ci hD3 h w1)
      · grind
    rw [line_meet (o := x) (a := z) (b := y) (s := v) (t := x) hD3 q1 q2 (crossQ_abb _ _) (crossQ_aba _ _)]; exact m0
  · have p0' : crossQ y z v = 0 := by grind
    by_cases p1 : 0 < crossQ z x v
    · have q2 : crossQ x y v = 0 := by
        by_cases h : 0 < crossQ x y v
        · exact absurd h (no ci cj c0 hD2 p1 w0)
        · grind
      rw [line_meet (o := y) (a := x) (b := z) (s := v) (t := y) hD q2 p0' (crossQ_abb _ _) (crossQ_aba _ _)]; exact mi
    · have p1' : crossQ z x v = 0 := by grind
      rw [line_meet (o := z) (a := y) (b := x) (s := v) (t := z) hD2 p0' p1' (crossQ_abb _ _) (crossQ_aba _ _)]; exact mj
theorem mem_cor {l : List (Rat × Rat)} {v : Rat × Rat} (h : v ∈ l) : ∃ k, k < l.length ∧ v = cor l k := by
  obtain ⟨k, hk, e⟩ := List.mem_iff_getElem.1 h
  exact ⟨k, hk, by rw [cor_get hk, e]⟩
/-- The same points: the same polygon, begun elsewhere. -/
theorem same_points {P Q : List (Rat × Rat)} (hP : Conv P) (hQ : Conv Q) (h : ∀ s, InL P s ↔ InL Q s) : (∃ u v, P = u ++ v ∧ Q = v ++ u) ∧ P.length = Q.length ∧ areaQ P = areaQ Q := by
  have sub : ∀ {P Q : List (Rat × Rat)}, Conv P → Conv Q → (∀ s, InL P s ↔ InL Q s) → ∀ v, v ∈ P → v ∈ Q := fun {P Q} hP hQ h v hv => by
    obtain ⟨k, hk, rfl⟩ := mem_cor hv
    exact ext_corner hQ ((h _).1 (corner_in hP hk)) (fun a b ha hb e1 e2 => corner_ext hP hk ((h _).2 ha) ((h _).2 hb) e1 e2)
  have hp : P.Perm Q := (List.perm_ext_iff_of_nodup (hP.tri.nodup hP.1) (hQ.tri.nodup hQ.1)).2 fun v => ⟨sub hP hQ h v, sub hQ hP (fun s => (h s).symm) v⟩
  obtain ⟨u, v, rfl, rfl⟩ := tri_perm hP.tri hQ.tri (by have := hP.1; omega) hp
  exact ⟨⟨u, v, rfl, rfl⟩, hp.length_eq, (area_rot u v).symm⟩
end Go.Proofs.Ytdfabocecpcmcaa
/- A convex polygon, cut by a half-plane: places on its border, and that any three of them turn left. Over no program; written ahead of layer 8's code. -/
namespace Go.Proofs.Ytdfabocecpcmcaa
open Go.MagM
/-- More than 0 beyond a half-plane. -/
def fvQ (A B C : Rat) (p : Rat × Rat) : Rat := A * p.1 + B * p.2 - C
/-- So far along the way. -/
def wayQ (a b : Rat × Rat) (t : Rat) : Rat × Rat := (a.1 + t * (b.1 - a.1), a.2 + t * (b.2 - a.2))
theorem wayQ_zero (a b : Rat × Rat) : wayQ a b 0 = a := by unfold wayQ; exact Prod.ext (by simp only []; grind) (by simp only []; grind)
theorem fv_way (A B C : Rat) (a b : Rat × Rat) (t : Rat) : fvQ A B C (wayQ a b t) = (1 - t) * fvQ A B C a + t * fvQ A B C b := by unfold fvQ wayQ; grind
theorem cross_way1 (a b y z : Rat × Rat) (t : Rat) : crossQ (wayQ a b t) y z = (1 - t) * crossQ a y z + t * crossQ b y z := by unfold crossQ wayQ; grind
theorem cross_way2 (x a b z : Rat × Rat) (t : Rat) : crossQ x (wayQ a b t) z = (1 - t) * crossQ x a z + t * crossQ x b z := by unfold crossQ wayQ; grind
theorem cross_way3 (x y a b : Rat × Rat) (t : Rat) : crossQ x y (wayQ a b t) = (1 - t) * crossQ x y a + t * crossQ x y b := by unfold crossQ wayQ; grind
theorem mix_nonneg {t u v : Rat} (h0 : 0 ≤ t) (h1 : t < 1) (hu : 0 ≤ u) (hv : 0 ≤ v) : 0 ≤ (1 - t) * u + t * v := by
  have a := Rat.mul_nonneg (show 0 ≤ 1 - t by grind) hu
  have b := Rat.mul_nonneg h0 hv
  grind
theorem mix_pos {t u v : Rat} (h0 : 0 ≤ t) (h1 : t < 1) (hu : 0 < u) (hv : 0 ≤ v) : 0 < (1 - t) * u + t * v := by
  have a := Rat.mul_pos (show 0 < 1 - t by grind) hu
  have b := Rat.mul_nonneg h0 hv
  grind
theorem mix_pos' {t u v : Rat} (h0 : 0 < t) (h1 : t < 1) (hu : 0 ≤ u) (hv : 0 < v) : 0 < (1 - t) * u + t * v := by
  have a := Rat.mul_nonneg (show 0 ≤ 1 - t by grind) hu
  have b := Rat.mul_pos h0 hv
  grind
/-- Corners in their order, the first one again at the end. -/
theorem Tri.wrap {l : List (Rat × Rat)} (h : Tri l) {i j k : Nat} (hij : i < j) (hjk : j < k) (hk : k ≤ l.length) (hn : ¬ (i = 0 ∧ k = l.length)) : 0 < crossQ (cor l i) (cor l j) (cor l k) := by
  rcases Nat.lt_or_ge k l.length with h1 | h1
  · exact h.at hij hjk h1
  · obtain rfl : k = l.length := by omega
    have e : cor l l.length = cor l 0 := by have := cor_add l 0; rwa [Nat.zero_add] at this
    rw [e, crossQ_cyc]
    exact h.at (by omega) hij (by omega)
theorem Tri.wrap0 {l : List (Rat × Rat)} (h : Tri l) {i j k : Nat} (hij : i ≤ j) (hjk : j ≤ k) (hk : k ≤ l.length) : 0 ≤ crossQ (cor l i) (cor l j) (cor l k) := by
  by_cases h1 : i = j
  · subst h1; rw [crossQ_aab]; exact Rat.le_refl
  · by_cases h2 : j = k
    · subst h2; rw [crossQ_abb]; exact Rat.le_refl
    · by_cases h3 : i = 0 ∧ k = l.length
      · obtain ⟨rfl, rfl⟩ := h3
        have e : cor l l.length = cor l 0 := by have := cor_add l 0; rwa [Nat.zero_add] at this
        rw [e, crossQ_aba]; exact Rat.le_refl
      · exact Rat.le_of_lt (h.wrap (by omega) (by omega) hk h3)
/-- A place on the border: the side, and how far along it. -/
def posQ (l : List (Rat × Rat)) (q : Nat × Rat) : Rat × Rat := wayQ (cor l q.1) (cor l (q.1 + 1)) q.2
/-- Where side i is kept: its beginning; where it is crossed. -/
def partT (A B C : Rat) (l : List (Rat × Rat)) (i : Nat) : List (Nat × Rat) :=
  (if fvQ A B C (cor l i) ≤ 0 then [(i, 0)] else []) ++
    (if fvQ A B C (cor l i) * fvQ A B C (cor l (i + 1)) < 0 then [(i, fvQ A B C (cor l i) / (fvQ A B C (cor l i) - fvQ A B C (cor l (i + 1))))] else [])
def cutT (A B C : Rat) (l : List (Rat × Rat)) : List (Nat × Rat) := (List.range l.length).flatMap (partT A B C l)
/-- What is known of a place. -/
structure Place (A B C : Rat) (l : List (Rat × Rat)) (q : Nat × Rat) : Prop where
  lt : q.1 < l.length
  at0 : 0 ≤ q.2
  at1 : q.2 < 1
  keep : q.2 = 0 → fvQ A B C (cor l q.1) ≤ 0
  cross : q.2 ≠ 0 → fvQ A B C (cor l q.1) * fvQ A B C (cor l (q.1 + 1)) < 0 ∧ q.2 = fvQ A B C (cor l q.1) / (fvQ A B C (cor l q.1) - fvQ A B C (cor l (q.1 + 1)))
theorem ratio_in {f g : Rat} (h : f * g < 0) : 0 < f / (f - g) ∧ f / (f - g) < 1 := by
  have hne : f - g ≠ 0 := by
    intro e
    have e2 : f = g := by grind
    subst e2
    by_cases k : 0 ≤ f
    · have := Rat.mul_nonneg k k; grind
    · have := Rat.mul_nonneg (show 0 ≤ -f by grind) (show 0 ≤ -f by grind); grind
  have hr := Rat.div_mul_cancel (a := f) hne
  generalize f / (f - g) = r at *
  by_cases hf : 0 < f
  · have hg : g < 0 := by
      by_cases k : g < 0
      · exact k
      · have := Rat.mul_nonneg (Rat.le_of_lt hf) (show 0 ≤ g by grind); grind
    have hd : 0 < f - g := by grind
    constructor
    · by_cases k : 0 < r
      · exact k
      · have := Rat.mul_nonneg (show 0 ≤ -r by grind) (Rat.le_of_lt hd); grind
    · by_cases k : r < 1
      · exact k
      · have := Rat.mul_nonneg (show 0 ≤ r - 1 by grind) (Rat.le_of_lt hd); grind
  · have hf2 : f < 0 := by
      by_cases k : f < 0
      · exact k
      · have : f = 0 := by grind
        subst this; grind
    have hg : 0 < g := by
      by_cases k : 0 < g
      · exact k
      · have := Rat.mul_nonneg (show 0 ≤ -f by grind) (show 0 ≤ -g by grind); grind
    have hd : 0 < g - f := by grind
    constructor
    · by_cases k : 0 < r
      · exact k
      · have := Rat.mul_nonneg (show 0 ≤ -r by grind) (Rat.le_of_lt hd); grind
    · by_cases k : r < 1
      · exact k
      · have := Rat.mul_nonneg (show 0 ≤ r - 1 by grind) (Rat.le_of_lt hd); grind
theorem mem_part {A B C : Rat} {l : List (Rat × Rat)} {i : Nat} {q : Nat × Rat} (hi : i < l.length) (h : q ∈ partT A B C l i) : q.1 = i ∧ Place A B C l q := by
  unfold partT at h
  rw [List.mem_append] at h
  rcases h with h | h
  · split at h
    · rename_i hk
      simp at h; subst h
      exact ⟨rfl, hi, Rat.le_refl, by simp only []; decide, fun _ => hk, fun h => absurd rfl h⟩
    · simp at h
  · split at h
    · rename_i hk
      simp at h; subst h
      obtain ⟨h1, h2⟩ := ratio_in hk
      exact ⟨rfl, hi, Rat.le_of_lt h1, h2, fun h0 => by simp only [] at h0; grind, fun _ => ⟨hk, rfl⟩⟩
    · simp at h
theorem mem_cutT {A B C : Rat} {l : List (Rat × Rat)} {q : Nat × Rat} (h : q ∈ cutT A B C l) : Place A B C l q := by
  unfold cutT at h
  rw [List.mem_flatMap] at h
  obtain ⟨i, hi, h⟩ := h
  exact (mem_part (List.mem_range.1 hi) h).2
/-- Places come in their order. -/
theorem cutT_sorted (A B C : Rat) (l : List (Rat × Rat)) : (cutT A B C l).Pairwise (fun p q => p.1 < q.1 ∨ (p.1 = q.1 ∧ p.2 = 0 ∧ q.2 ≠ 0)) := by
  unfold cutT
  rw [List.pairwise_flatMap]
  constructor
  · intro i hi
    unfold partT
    split
    · split
      · rename_i h1 h2
        have := (ratio_in h2).1
        simp
        grind
      · simp
    · split <;> simp
  · rw [List.pairwise_iff_getElem]
    intro i j hi hj hij p hp q hq
    simp at hi hj
    have e1 := (mem_part (A := A) (B := B) (C := C) (by simpa using hi) hp).1
    have e2 := (mem_part (A := A) (B := B) (C := C) (by simpa using hj) hq).1
    left
    simp at e1 e2
    omega
end Go.Proofs.Ytdfabocecpcmcaa
/- A convex polygon, cut by a half-plane, is one. Over no program; written ahead of layer 8's code. -/
namespace Go.Proofs.Ytdfabocecpcmcaa
open Go.MagM
/-- What is left of a polygon. -/
def cutQ (A B C : Rat) (l : List (Rat × Rat)) : List (Rat × Rat) := (cutT A B C l).map (posQ l)
theorem posQ_zero (l : List (Rat × Rat)) (i : Nat) : posQ l (i, 0) = cor l i := wayQ_zero _ _
theorem fv_pos_le {A B C : Rat} {l : List (Rat × Rat)} {q : Nat × Rat} (h : Place A B C l q) : fvQ A B C (posQ l q) ≤ 0 ∧ (q.2 ≠ 0 → fvQ A B C (posQ l q) = 0) := by
  obtain ⟨i, t⟩ := q
  have z : t ≠ 0 → fvQ A B C (posQ l (i, t)) = 0 := fun ht => by
    obtain ⟨h1, h2⟩ := h.cross ht
    simp only [] at h1 h2
    unfold posQ
    rw [fv_way]
    simp only []
    generalize fvQ A B C (cor l i) = f at *
    generalize fvQ A B C (cor l (i + 1)) = g at *
    have hne : f - g ≠ 0 := by
      intro e
      have := (ratio_in h1).1
      rw [e, Rat.div_def, Rat.inv_zero, Rat.mul_zero] at this
      exact Rat.lt_irrefl this
    have hr := Rat.div_mul_cancel (a := f) hne
    rw [← h2] at hr
    grind
  refine ⟨?_, z⟩
  by_cases ht : t = 0
  · subst ht; rw [posQ_zero]; exact h.keep rfl
  · rw [z ht]; exact Rat.le_refl
theorem not_both {A B C : Rat} {l : List (Rat × Rat)} {i : Nat} (h1 : fvQ A B C (cor l i) ≤ 0) (h2 : fvQ A B C (cor l (i + 1)) ≤ 0) : ¬ fvQ A B C (cor l i) * fvQ A B C (cor l (i + 1)) < 0 := by
  intro h
  have := Rat.mul_nonneg (show 0 ≤ -fvQ A B C (cor l i) by grind) (show 0 ≤ -fvQ A B C (cor l (i + 1)) by grind)
  grind
theorem Tri.cut {A B C : Rat} {l : List (Rat × Rat)} (h : Tri l) (h3 : 3 ≤ l.length) : Tri (cutQ A B C l) := by
  intro a b c hs
  obtain ⟨qs, hq, e⟩ := List.sublist_map_iff.1 hs
  match qs, hq, e with
  | [(i, r), (j, s), (k, t)], hq, e =>
    simp at e
    obtain ⟨rfl, rfl, rfl⟩ := e
    have P1 := mem_cutT (hq.subset (by simp : (i, r) ∈ [(i, r), (j, s), (k, t)]))
    have P2 := mem_cutT (hq.subset (by simp : (j, s) ∈ [(i, r), (j, s), (k, t)]))
    have P3 := mem_cutT (hq.subset (by simp : (k, t) ∈ [(i, r), (j, s), (k, t)]))
    have hp := (cutT_sorted A B C l).sublist hq
    simp at hp
    obtain ⟨⟨o1, _⟩, o2⟩ := hp
    obtain ⟨l1, a1, b1, c1, d1⟩ := P1
    obtain ⟨l2, a2, b2, c2, d2⟩ := P2
    obtain ⟨l3, a3, b3, c3, d3⟩ := P3
    simp only [] at l1 a1 b1 c1 d1 l2 a2 b2 c2 d2 l3 a3 b3 c3 d3
    have W := fun (x y z : Nat) (h1 : x ≤ y) (h2 : y ≤ z) (h3 : z ≤ l.length) => h.wrap0 h1 h2 h3
    unfold posQ
    simp only []
    rcases o1 with o1 | ⟨rfl, rfl, hs0⟩
    · rcases o2 with o2 | ⟨rfl, rfl, ht0⟩
      · -- three sides
        rw [cross_way1]
        have rest : ∀ x, x ≤ j → 0 ≤ crossQ (cor l x) (wayQ (cor l j) (cor l (j + 1)) s) (wayQ (cor l k) (cor l (k + 1)) t) := fun x hx => by
          rw [cross_way2]
          refine mix_nonneg a2 b2 ?_ ?_
          · rw [cross_way3]; exact mix_nonneg a3 b3 (W _ _ _ hx (by omega) (by omega)) (W _ _ _ hx (by omega) (by omega))
          · rw [cross_way3]; exact mix_nonneg a3 b3 (W _ _ _ (by omega) (by omega) (by omega)) (W _ _ _ (by omega) (by omega) (by omega))
        refine mix_pos a1 b1 ?_ (rest _ (by omega))
        rw [cross_way2]
        refine mix_pos a2 b2 ?_ ?_
        · rw [cross_way3]
          exact mix_pos a3 b3 (h.at o1 o2 l3) (W _ _ _ (by omega) (by omega) (by omega))
        · rw [cross_way3]; exact mix_nonneg a3 b3 (W _ _ _ (by omega) (by omega) (by omega)) (W _ _ _ (by omega) (by omega) (by omega))
      · -- the last two on one side
        have ht1 : 0 < t := by grind
        obtain ⟨hx, _⟩ := d3 ht0
        rw [wayQ_zero, cross_way3]
        have z : crossQ (wayQ (cor l i) (cor l (i + 1)) r) (cor l j) (cor l j) = 0 := crossQ_abb _ _
        rw [z]
        have main : 0 < crossQ (wayQ (cor l i) (cor l (i + 1)) r) (cor l j) (cor l (j + 1)) := by
          rw [cross_way1]
          by_cases hw : i = 0 ∧ j + 1 = l.length
          · obtain ⟨rfl, hj⟩ := hw
            have hr0 : r ≠ 0 := by
              intro e
              have k1 := c1 e
              have ej : cor l (j + 1) = cor l 0 := by rw [hj]; have := cor_add l 0; rwa [Nat.zero_add] at this
              rw [ej] at hx
              have k2 := c2 rfl
              exact not_both (A := A) (B := B) (C := C) (l := l) (i := j) k2 (by rw [ej]; exact k1) (by rw [ej]; exact hx)
            exact mix_pos' (by grind) b1 (W _ _ _ (by omega) (by omega) (by omega)) (h.wrap (by omega) (by omega) (by omega) (by omega))
          · exact mix_pos a1 b1 (h.wrap o1 (by omega) (by omega) hw) (W _ _ _ (by omega) (by omega) (by omega))
        have := Rat.mul_pos ht1 main
        grind
    · -- the first two on one side
      have hs1 : 0 < s := by grind
      obtain ⟨hx, _⟩ := d2 hs0
      rcases o2 with o2 | ⟨_, e0, _⟩
      · rw [wayQ_zero, cross_way2]
        have z : crossQ (cor l i) (cor l i) (wayQ (cor l k) (cor l (k + 1)) t) = 0 := crossQ_aab _ _
        rw [z]
        have main : 0 < crossQ (cor l i) (cor l (i + 1)) (wayQ (cor l k) (cor l (k + 1)) t) := by
          rw [cross_way3]
          by_cases hk : k = i + 1
          · subst hk
            have ht0 : t ≠ 0 := by
              intro e
              exact not_both (c1 rfl) (c3 e) hx
            rw [crossQ_abb]
            exact mix_pos' (by grind) b3 Rat.le_refl (h.wrap (by omega) (by omega) (by omega) (by omega))
          · exact mix_pos a3 b3 (h.at (by omega) (by omega) l3) (W _ _ _ (by omega) (by omega) (by omega))
        have := Rat.mul_pos hs1 main
        grind
      · exact absurd e0 hs0
  | [], _, e => simp at e
  | [_], _, e => simp at e
  | [_, _], _, e => simp at e
  | _ :: _ :: _ :: _ :: _, _, e => simp at e
end Go.Proofs.Ytdfabocecpcmcaa
/- What lies in a convex polygon that is cut: what lies in it, and in the half-plane. Over no program; written ahead of layer 8's code. -/
namespace Go.Proofs.Ytdfabocecpcmcaa
open Go.MagM
section
variable {A B C : Rat} {l : List (Rat × Rat)}
/-- One place comes ahead of another one. -/
def ltP (p q : Nat × Rat) : Prop := p.1 < q.1 ∨ (p.1 = q.1 ∧ p.2 = 0 ∧ q.2 ≠ 0)
theorem ltP_asym {p q : Nat × Rat} (h : ltP p q) : ¬ ltP q p := by
  rintro (h2 | ⟨h2, h3, h4⟩) <;> rcases h with h | ⟨h, h5, h6⟩
  · omega
  · omega
  · omega
  · exact h4 h5
theorem ltP_irr {p : Nat × Rat} : ¬ ltP p p := fun h => ltP_asym h h
theorem sorted_at {i j : Nat} (hij : i < j) (hj : j < (cutT A B C l).length) : ltP ((cutT A B C l)[i]'(by omega)) (cutT A B C l)[j] :=
  List.pairwise_iff_getElem.1 (cutT_sorted A B C l) i j (by omega) hj hij
theorem place_at {i : Nat} (hi : i < (cutT A B C l).length) : Place A B C l (cutT A B C l)[i] := mem_cutT (List.getElem_mem _)
theorem mem_keep {i : Nat} (hi : i < l.length) (h : fvQ A B C (cor l i) ≤ 0) : (i, 0) ∈ cutT A B C l := by
  unfold cutT
  rw [List.mem_flatMap]
  refine ⟨i, List.mem_range.2 hi, ?_⟩
  unfold partT
  rw [if_pos h]; simp
theorem mem_cross {i : Nat} (hi : i < l.length) (h : fvQ A B C (cor l i) * fvQ A B C (cor l (i + 1)) < 0) : (i, fvQ A B C (cor l i) / (fvQ A B C (cor l i) - fvQ A B C (cor l (i + 1)))) ∈ cutT A B C l := by
  unfold cutT
  rw [List.mem_flatMap]
  refine ⟨i, List.mem_range.2 hi, ?_⟩
  unfold partT
  rw [if_pos h]; simp
theorem next_of {k : Nat} (hk : k < (cutT A B C l).length) {c : Nat × Rat} (hc : c ∈ cutT A B C l) (h : ltP (cutT A B C l)[k] c) : ∃ h1 : k + 1 < (cutT A B C l).length, c = (cutT A B C l)[k + 1] ∨ ltP (cutT A B C l)[k + 1] c := by
  obtain ⟨m, hm, rfl⟩ := List.mem_iff_getElem.1 hc
  have hkm : k < m := by
    rcases Nat.lt_trichotomy k m with h1 | h1 | h1
    · exact h1
    · subst h1; exact absurd h ltP_irr
    · exact absurd (sorted_at h1 hk) (ltP_asym h)
  refine ⟨by omega, ?_⟩
  by_cases e : k + 1 = m
  · subst e; exact .inl rfl
  · exact .inr (sorted_at (by omega) hm)
theorem prev_of {k : Nat} (hk : k + 1 < (cutT A B C l).length) {c : Nat × Rat} (hc : c ∈ cutT A B C l) (h : ltP c (cutT A B C l)[k + 1]) : c = (cutT A B C l)[k] ∨ ltP c (cutT A B C l)[k] := by
  obtain ⟨m, hm, rfl⟩ := List.mem_iff_getElem.1 hc
  have hkm : m < k + 1 := by
    rcases Nat.lt_trichotomy m (k + 1) with h1 | h1 | h1
    · exact h1
    · subst h1; exact absurd h ltP_irr
    · exact absurd (sorted_at h1 hm) (ltP_asym h)
  by_cases e : m = k
  · subst e; exact .inl rfl
  · exact .inr (sorted_at (by omega) (by omega))
theorem first_of {c : Nat × Rat} (hc : c ∈ cutT A B C l) : ∃ h : 0 < (cutT A B C l).length, c = (cutT A B C l)[0] ∨ ltP (cutT A B C l)[0] c := by
  obtain ⟨m, hm, rfl⟩ := List.mem_iff_getElem.1 hc
  refine ⟨by omega, ?_⟩
  by_cases e : m = 0
  · subst e; exact .inl rfl
  · exact .inr (sorted_at (by omega) hm)
theorem last_of {k : Nat} (hk : k + 1 = (cutT A B C l).length) {c : Nat × Rat} (hc : c ∈ cutT A B C l) : c = (cutT A B C l)[k] ∨ ltP c (cutT A B C l)[k] := by
  obtain ⟨m, hm, rfl⟩ := List.mem_iff_getElem.1 hc
  by_cases e : m = k
  · subst e; exact .inl rfl
  · exact .inr (sorted_at (by omega) (by omega))
/-- The place behind the k-th one, going round. -/
def nxt (A B C : Rat) (l : List (Rat × Rat)) (k : Nat) : Nat × Rat := (cutT A B C l).getD ((k + 1) % (cutT A B C l).length) (0, 0)
theorem nxt_in {k : Nat} (h : k + 1 < (cutT A B C l).length) : nxt A B C l k = (cutT A B C l)[k + 1] := by
  unfold nxt; rw [Nat.mod_eq_of_lt h, List.getD_eq_getElem?_getD, List.getElem?_eq_getElem h]; rfl
theorem nxt_end {k : Nat} (h : k + 1 = (cutT A B C l).length) (h0 : 0 < (cutT A B C l).length) : nxt A B C l k = (cutT A B C l)[0] := by
  unfold nxt; rw [h, Nat.mod_self, List.getD_eq_getElem?_getD, List.getElem?_eq_getElem h0]; rfl
/-- Behind a corner that lies strictly within the half-plane one goes on along its side. -/
theorem next_side (h3 : 3 ≤ l.length) {k : Nat} (hk : k < (cutT A B C l).length) (hf : fvQ A B C (posQ l (cutT A B C l)[k]) < 0) :
    ∃ i t, i < l.length ∧ 0 ≤ t ∧ posQ l (cutT A B C l)[k] = cor l i ∧ posQ l (nxt A B C l k) = wayQ (cor l i) (cor l (i + 1)) t := by
  have P := place_at hk
  obtain ⟨i, r, hq⟩ : ∃ i r, (cutT A B C l)[k] = (i, r) := ⟨_, _, rfl⟩
  rw [hq] at P hf
  have hr : r = 0 := by
    by_cases h : r = 0
    · exact h
    · have := (fv_pos_le P).2 h; rw [this] at hf; exact absurd hf Rat.lt_irrefl
  subst hr
  rw [posQ_zero] at hf
  have hi := P.lt
  simp only [] at hi
  by_cases hx : fvQ A B C (cor l i) * fvQ A B C (cor l (i + 1)) < 0
  · have hc := mem_cross hi hx
    have ht := ratio_in hx
    generalize fvQ A B C (cor l i) / (fvQ A B C (cor l i) - fvQ A B C (cor l (i + 1))) = t at *
    obtain ⟨h1, h2⟩ := next_of hk hc (by rw [hq]; exact .inr ⟨rfl, rfl, by simp only []; grind⟩)
    refine ⟨i, t, hi, by grind, by rw [hq]; exact posQ_zero _ _, ?_⟩
    rw [nxt_in h1]
    rcases h2 with h2 | h2
    · rw [← h2]; rfl
    · exfalso
      have h4 := sorted_at (A := A) (B := B) (C := C) (l := l) (Nat.lt_succ_self k) h1
      rw [hq] at h4
      generalize (cutT A B C l)[k + 1] = z at *
      rcases h4 with h4 | ⟨h4, _, h5⟩ <;> rcases h2 with h2 | ⟨h2, h6, _⟩
      · simp only [] at h2 h4; omega
      · simp only [] at h2 h4; omega
      · simp only [] at h2 h4; omega
      · exact h5 h6
  · have hf1 : fvQ A B C (cor l (i + 1)) ≤ 0 := by
      by_cases h : fvQ A B C (cor l (i + 1)) ≤ 0
      · exact h
      · have := Rat.mul_pos (show 0 < -fvQ A B C (cor l i) by grind) (show 0 < fvQ A B C (cor l (i + 1)) by grind)
        exact absurd (show fvQ A B C (cor l i) * fvQ A B C (cor l (i + 1)) < 0 by grind) hx
    have nocross : ∀ t, (i, t) ∈ cutT A B C l → t = 0 := fun t ht => by
      by_cases h : t = 0
      · exact h
      · exact absurd ((mem_cutT ht).cross h).1 hx
    refine ⟨i, 1, hi, by decide, by rw [hq]; exact posQ_zero _ _, ?_⟩
    have e1 : wayQ (cor l i) (cor l (i + 1)) 1 = cor l (i + 1) := by unfold wayQ; exact Prod.ext (by simp only []; grind) (by simp only []; grind)
    rw [e1]
    by_cases hn : i + 1 < l.length
    · have hc := mem_keep hn hf1
      obtain ⟨h1, h2⟩ := next_of hk hc (by rw [hq]; exact .inl (Nat.lt_succ_self i))
      rw [nxt_in h1]
      rcases h2 with h2 | h2
      · rw [← h2]; exact posQ_zero _ _
      · exfalso
        have h4 := sorted_at (A := A) (B := B) (C := C) (l := l) (Nat.lt_succ_self k) h1
        have hm : (cutT A B C l)[k + 1] ∈ cutT A B C l := List.getElem_mem _
        rw [hq] at h4
        obtain ⟨zi, zt, hz⟩ : ∃ zi zt, (cutT A B C l)[k + 1] = (zi, zt) := ⟨_, _, rfl⟩
        rw [hz] at h2 h4 hm
        rcases h4 with h4 | ⟨h4, _, h5⟩ <;> rcases h2 with h2 | ⟨h2, h6, h7⟩
        · simp only [] at h2 h4; omega
        · exact h7 rfl
        · simp only [] at h4; subst h4; exact h5 (nocross _ hm)
        · exact h7 rfl
    · have e0 : cor l (i + 1) = cor l 0 := by rw [show i + 1 = 0 + l.length by omega]; exact cor_add l 0
      rw [e0] at hf1 ⊢
      have hc := mem_keep (by omega) hf1
      have hlast : k + 1 = (cutT A B C l).length := by
        by_cases h : k + 1 < (cutT A B C l).length
        · exfalso
          have h4 := sorted_at (A := A) (B := B) (C := C) (l := l) (Nat.lt_succ_self k) h
          have P2 := place_at h
          have hm : (cutT A B C l)[k + 1] ∈ cutT A B C l := List.getElem_mem _
          rw [hq] at h4
          obtain ⟨zi, zt, hz⟩ : ∃ zi zt, (cutT A B C l)[k + 1] = (zi, zt) := ⟨_, _, rfl⟩
          rw [hz] at h4 P2 hm
          have := P2.lt
          simp only [] at this
          rcases h4 with h4 | ⟨h4, _, h5⟩
          · simp only [] at h4; omega
          · simp only [] at h4; subst h4; exact h5 (nocross _ hm)
        · omega
      obtain ⟨h1, h2⟩ := first_of hc
      rw [nxt_end hlast h1]
      rcases h2 with h2 | h2
      · rw [← h2]; exact posQ_zero _ _
      · exfalso
        rcases h2 with h2 | ⟨_, _, h2⟩
        · simp only [] at h2; omega
        · exact h2 rfl
/-- One comes to a corner that lies strictly within along the side ahead of it. -/
theorem prev_side (h3 : 3 ≤ l.length) {k : Nat} (hk : k < (cutT A B C l).length) (hf : fvQ A B C (posQ l (nxt A B C l k)) < 0) :
    ∃ i t, i < l.length ∧ t ≤ 1 ∧ posQ l (cutT A B C l)[k] = wayQ (cor l i) (cor l (i + 1)) t ∧ posQ l (nxt A B C l k) = cor l (i + 1) := by
  -- the place behind, and its side
  have hm : nxt A B C l k ∈ cutT A B C l := by
    by_cases h : k + 1 < (cutT A B C l).length
    · rw [nxt_in h]; exact List.getElem_mem _
    · rw [nxt_end (by omega) (by omega)]; exact List.getElem_mem _
  have P := mem_cutT hm
  obtain ⟨j, r, hq⟩ : ∃ j r, nxt A B C l k = (j, r) := ⟨_, _, rfl⟩
  rw [hq] at P hf
  have hr : r = 0 := by
    by_cases h : r = 0
    · exact h
    · have := (fv_pos_le P).2 h; rw [this] at hf; exact absurd hf Rat.lt_irrefl
  subst hr
  rw [posQ_zero] at hf
  have hj := P.lt
  simp only [] at hj
  obtain ⟨i, hi, hij⟩ : ∃ i, i < l.length ∧ cor l (i + 1) = cor l j ∧ (i + 1 = j ∨ (j = 0 ∧ i + 1 = l.length)) := by
    by_cases h0 : j = 0
    · subst h0
      refine ⟨l.length - 1, by omega, ?_, .inr ⟨rfl, by omega⟩⟩
      rw [show l.length - 1 + 1 = 0 + l.length by omega]; exact cor_add l 0
    · exact ⟨j - 1, by omega, by rw [show j - 1 + 1 = j by omega], .inl (by omega)⟩
  obtain ⟨ej, hij⟩ := hij
  -- the place ahead: where side i is crossed, or its beginning
  obtain ⟨t, hc, ht1, hno⟩ : ∃ t, (i, t) ∈ cutT A B C l ∧ t ≤ 1 ∧ (t = 0 → ∀ s, (i, s) ∈ cutT A B C l → s = 0) := by
    by_cases hx : fvQ A B C (cor l i) * fvQ A B C (cor l (i + 1)) < 0
    · have ht := ratio_in hx
      exact ⟨_, mem_cross hi hx, Rat.le_of_lt ht.2, fun h0 => absurd h0 (by intro e; rw [e] at ht; exact Rat.lt_irrefl ht.1)⟩
    · have hf1 : fvQ A B C (cor l i) ≤ 0 := by
        by_cases h : fvQ A B C (cor l i) ≤ 0
        · exact h
        · rw [ej] at hx
          have := Rat.mul_pos (show 0 < fvQ A B C (cor l i) by grind) (show 0 < -fvQ A B C (cor l j) by grind)
          exact absurd (show fvQ A B C (cor l i) * fvQ A B C (cor l j) < 0 by grind) hx
      exact ⟨0, mem_keep hi hf1, by decide, fun _ s hs => by
        by_cases h : s = 0
        · exact h
        · exact absurd ((mem_cutT hs).cross h).1 hx⟩
  have hk2 : (cutT A B C l)[k] ∈ cutT A B C l := List.getElem_mem _
  have key : (cutT A B C l)[k] = (i, t) := by
    by_cases hl : k + 1 < (cutT A B C l).length
    · have h4 := sorted_at (A := A) (B := B) (C := C) (l := l) (Nat.lt_succ_self k) hl
      rw [nxt_in hl] at hq
      rw [hq] at h4
      have hij2 : i + 1 = j := by
        rcases hij with h | ⟨h, _⟩
        · exact h
        · exfalso; subst h
          rcases h4 with h4 | ⟨_, _, h5⟩
          · simp only [] at h4; omega
          · exact h5 rfl
      rcases prev_of hl hc (by rw [hq]; exact .inl (by simp only []; omega)) with h | h
      · exact h.symm
      · exfalso
        obtain ⟨zi, zt, hz⟩ : ∃ zi zt, (cutT A B C l)[k] = (zi, zt) := ⟨_, _, rfl⟩
        rw [hz] at h h4 hk2
        rcases h4 with h4 | ⟨_, _, h5⟩
        · rcases h with h | ⟨h, h6, h7⟩
          · simp only [] at h h4; omega
          · simp only [] at h h6 h7; subst h; exact h7 (hno h6 _ hk2)
        · exact h5 rfl
    · have hl' : k + 1 = (cutT A B C l).length := by omega
      rw [nxt_end hl' (by omega)] at hq
      have hij2 : j = 0 ∧ i + 1 = l.length := by
        rcases hij with h | h
        · exfalso
          obtain ⟨_, h2⟩ := first_of hc
          rw [hq] at h2
          rcases h2 with h2 | h2 | ⟨h2, _, _⟩
          · simp at h2; omega
          · simp only [] at h2; omega
          · simp only [] at h2; omega
        · exact h
      rcases last_of hl' hc with h | h
      · exact h.symm
      · exfalso
        obtain ⟨zi, zt, hz⟩ : ∃ zi zt, (cutT A B C l)[k] = (zi, zt) := ⟨_, _, rfl⟩
        rw [hz] at h hk2
        have := (mem_cutT hk2).lt
        simp only [] at this
        rcases h with h | ⟨h, h6, h7⟩
        · simp only [] at h; omega
        · simp only [] at h h6 h7; subst h; exact h7 (hno h6 _ hk2)
  refine ⟨i, t, hi, ht1, by rw [key]; rfl, ?_⟩
  rw [hq, posQ_zero, ej]
/-- Two points on the border of a half-plane part the others as the half-plane does. -/
theorem jump_side {e e' k s : Rat × Rat} (h1 : fvQ A B C e = 0) (h2 : fvQ A B C e' = 0) (hk : fvQ A B C k < 0) (hp : 0 < crossQ e e' k) (hs : fvQ A B C s ≤ 0) : 0 ≤ crossQ e e' s := by
  have id1 : crossQ e e' s * fvQ A B C k = crossQ e e' k * fvQ A B C s := by unfold crossQ fvQ at *; grind
  have n1 := Rat.mul_nonneg (Rat.le_of_lt hp) (show 0 ≤ -fvQ A B C s by grind)
  by_cases h : 0 ≤ crossQ e e' s
  · exact h
  · have := Rat.mul_pos (show 0 < -crossQ e e' s by grind) (show 0 < -fvQ A B C k by grind)
    grind
theorem cor_cut {k : Nat} (hk : k < (cutT A B C l).length) : cor (cutQ A B C l) k = posQ l (cutT A B C l)[k] := by
  have : k < (cutQ A B C l).length := by unfold cutQ; rwa [List.length_map]
  rw [cor_get this]; simp [cutQ]
theorem cor_cut' {k : Nat} (hk : k < (cutT A B C l).length) : cor (cutQ A B C l) (k + 1) = posQ l (nxt A B C l k) := by
  have hl : (cutQ A B C l).length = (cutT A B C l).length := by unfold cutQ; rw [List.length_map]
  by_cases h : k + 1 < (cutT A B C l).length
  · rw [cor_cut h, nxt_in h]
  · have e : k + 1 = 0 + (cutQ A B C l).length := by omega
    rw [e, cor_add, cor_cut (by omega), nxt_end (by omega) (by omega)]
/-- What lies in the polygon, and in the half-plane, lies in what is cut. -/
theorem in_cut (hc : Conv l) (hr : Conv (cutQ A B C l)) {i0 : Nat} (hi0 : i0 < l.length) (hf0 : fvQ A B C (cor l i0) < 0) {s : Rat × Rat} (hs : InL l s) (hf : fvQ A B C s ≤ 0) : InL (cutQ A B C l) s := by
  have h3 := hc.1
  have hl : (cutQ A B C l).length = (cutT A B C l).length := by unfold cutQ; rw [List.length_map]
  refine ⟨by have := hr.1; omega, fun k hk => ?_⟩
  rw [hl] at hk
  rw [cor_cut hk, cor_cut' hk]
  have hP := mem_cutT (List.getElem_mem hk)
  have hm : nxt A B C l k ∈ cutT A B C l := by
    by_cases h : k + 1 < (cutT A B C l).length
    · rw [nxt_in h]; exact List.getElem_mem _
    · rw [nxt_end (by omega) (by omega)]; exact List.getElem_mem _
  have hP2 := mem_cutT hm
  have f1 := (fv_pos_le hP).1
  have f2 := (fv_pos_le hP2).1
  by_cases n1 : fvQ A B C (posQ l (cutT A B C l)[k]) < 0
  · obtain ⟨i, t, hi, ht, e1, e2⟩ := next_side h3 hk n1
    rw [e1, e2]
    have id1 : crossQ (cor l i) (wayQ (cor l i) (cor l (i + 1)) t) s = t * crossQ (cor l i) (cor l (i + 1)) s := by unfold crossQ wayQ; grind
    rw [id1]
    exact Rat.mul_nonneg ht (hs.2 i hi)
  · by_cases n2 : fvQ A B C (posQ l (nxt A B C l k)) < 0
    · obtain ⟨i, t, hi, ht, e1, e2⟩ := prev_side h3 hk n2
      rw [e1, e2]
      have id1 : crossQ (wayQ (cor l i) (cor l (i + 1)) t) (cor l (i + 1)) s = (1 - t) * crossQ (cor l i) (cor l (i + 1)) s := by unfold crossQ wayQ; grind
      rw [id1]
      exact Rat.mul_nonneg (by grind) (hs.2 i hi)
    · have z1 : fvQ A B C (posQ l (cutT A B C l)[k]) = 0 := by grind
      have z2 : fvQ A B C (posQ l (nxt A B C l k)) = 0 := by grind
      -- a corner strictly within lies strictly to the left
      obtain ⟨m, hm2, em⟩ := List.mem_iff_getElem.1 (mem_keep hi0 (Rat.le_of_lt hf0))
      have ecm : cor (cutQ A B C l) m = cor l i0 := by rw [cor_cut hm2, em, posQ_zero]
      have hpos : 0 < crossQ (posQ l (cutT A B C l)[k]) (posQ l (nxt A B C l k)) (cor l i0) := by
        have := hr.2 k m (by omega) (by omega) (by
          intro e; subst e; rw [em, posQ_zero] at z1; rw [z1] at hf0; exact Rat.lt_irrefl hf0) (by
          intro e
          have : cor (cutQ A B C l) m = cor (cutQ A B C l) (k + 1) := by rw [e, cor_mod]
          rw [ecm, cor_cut' hk] at this
          rw [← this] at z2; rw [z2] at hf0; exact Rat.lt_irrefl hf0)
        rwa [cor_cut hk, cor_cut' hk, ecm] at this
      exact jump_side z1 z2 hf0 hpos hf
/-- What lies in what is cut lies in the polygon, and in the half-plane. -/
theorem cut_in (hc : Conv l) (hr : Conv (cutQ A B C l)) {s : Rat × Rat} (hs : InL (cutQ A B C l) s) : InL l s ∧ fvQ A B C s ≤ 0 := by
  have hl : (cutQ A B C l).length = (cutT A B C l).length := by unfold cutQ; rw [List.length_map]
  refine ⟨⟨by have := hc.1; omega, fun i hi => ?_⟩, ?_⟩
  · have := hull_le hr hs (A := (cor l (i + 1)).2 - (cor l i).2) (B := -((cor l (i + 1)).1 - (cor l i).1)) (C := ((cor l (i + 1)).2 - (cor l i).2) * (cor l i).1 - ((cor l (i + 1)).1 - (cor l i).1) * (cor l i).2) (fun k hk => by
      rw [hl] at hk
      rw [cor_cut hk]
      have P := place_at hk
      have g1 := (corner_in hc P.lt).2 i hi
      have g2 : 0 ≤ crossQ (cor l i) (cor l (i + 1)) (cor l ((cutT A B C l)[k].1 + 1)) := by
        have := (corner_in hc (k := ((cutT A B C l)[k].1 + 1) % l.length) (Nat.mod_lt _ (by have := hc.1; omega))).2 i hi
        rwa [cor_mod] at this
      have g := mix_nonneg P.at0 P.at1 g1 g2
      rw [← cross_way3] at g
      have e : wayQ (cor l (cutT A B C l)[k].1) (cor l ((cutT A B C l)[k].1 + 1)) (cutT A B C l)[k].2 = posQ l (cutT A B C l)[k] := rfl
      rw [e] at g
      unfold crossQ at g
      grind)
    unfold crossQ
    grind
  · have := hull_le hr hs (A := A) (B := B) (C := C) (fun k hk => by
      rw [hl] at hk
      rw [cor_cut hk]
      have := (fv_pos_le (place_at hk)).1
      unfold fvQ at this
      grind)
    unfold fvQ
    grind
end
end Go.Proofs.Ytdfabocecpcmcaa
/- A polygon that is cut: three corners or more; the areas of both halves. Over no program; written ahead of layer 8's code. -/
namespace Go.Proofs.Ytdfabocecpcmcaa
open Go.MagM
theorem three_mem {α : Type} {L : List α} {a b c : α} (ha : a ∈ L) (hb : b ∈ L) (hc : c ∈ L) (h1 : a ≠ b) (h2 : a ≠ c) (h3 : b ≠ c) : 3 ≤ L.length := by
  obtain ⟨i, hi, rfl⟩ := List.mem_iff_getElem.1 ha
  obtain ⟨j, hj, rfl⟩ := List.mem_iff_getElem.1 hb
  obtain ⟨k, hk, rfl⟩ := List.mem_iff_getElem.1 hc
  have e1 : i ≠ j := fun e => h1 (by subst e; rfl)
  have e2 : i ≠ k := fun e => h2 (by subst e; rfl)
  have e3 : j ≠ k := fun e => h3 (by subst e; rfl)
  omega
theorem mod_next {n i : Nat} (_h3 : 3 ≤ n) (hi : i < n) : ((i + 1 < n ∧ (i + 1) % n = i + 1) ∨ (i + 1 = n ∧ (i + 1) % n = 0)) := by
  by_cases h : i + 1 < n
  · exact .inl ⟨h, Nat.mod_eq_of_lt h⟩
  · have e : i + 1 = n := by omega
    exact .inr ⟨e, by rw [e, Nat.mod_self]⟩
/-- If a corner lies strictly within, three corners or more are left. -/
theorem cut_three {A B C : Rat} {l : List (Rat × Rat)} (h3 : 3 ≤ l.length) {i : Nat} (hi : i < l.length) (hf : fvQ A B C (cor l i) < 0) : 3 ≤ (cutQ A B C l).length := by
  unfold cutQ
  rw [List.length_map]
  have m0 := mem_keep (A := A) (B := B) (C := C) hi (Rat.le_of_lt hf)
  -- behind it
  obtain ⟨p, hp, hp1⟩ : ∃ p, p ∈ cutT A B C l ∧ ((p.1 = i ∧ p.2 ≠ 0) ∨ (p.1 = (i + 1) % l.length ∧ p.2 = 0)) := by
    by_cases hx : fvQ A B C (cor l i) * fvQ A B C (cor l (i + 1)) < 0
    · have := (ratio_in hx).1
      exact ⟨_, mem_cross hi hx, .inl ⟨rfl, by simp only []; grind⟩⟩
    · have hf1 : fvQ A B C (cor l ((i + 1) % l.length)) ≤ 0 := by
        rw [cor_mod]
        by_cases h : fvQ A B C (cor l (i + 1)) ≤ 0
        · exact h
        · have := Rat.mul_pos (show 0 < -fvQ A B C (cor l i) by grind) (show 0 < fvQ A B C (cor l (i + 1)) by grind)
          exact absurd (show fvQ A B C (cor l i) * fvQ A B C (cor l (i + 1)) < 0 by grind) hx
      exact ⟨_, mem_keep (Nat.mod_lt _ (by omega)) hf1, .inr ⟨rfl, rfl⟩⟩
  -- ahead of it
  obtain ⟨j, hj, hji⟩ : ∃ j, j < l.length ∧ (j + 1) % l.length = i := by
    by_cases h0 : i = 0
    · subst h0; exact ⟨l.length - 1, by omega, by rw [show l.length - 1 + 1 = l.length by omega, Nat.mod_self]⟩
    · exact ⟨i - 1, by omega, by rw [show i - 1 + 1 = i by omega, Nat.mod_eq_of_lt hi]⟩
  obtain ⟨q, hq, hq1⟩ : ∃ q, q ∈ cutT A B C l ∧ q.1 = j := by
    have ej : cor l (j + 1) = cor l i := by rw [← cor_mod, hji]
    by_cases hx : fvQ A B C (cor l j) * fvQ A B C (cor l (j + 1)) < 0
    · exact ⟨_, mem_cross hj hx, rfl⟩
    · have hf1 : fvQ A B C (cor l j) ≤ 0 := by
        by_cases h : fvQ A B C (cor l j) ≤ 0
        · exact h
        · rw [ej] at hx
          have := Rat.mul_pos (show 0 < fvQ A B C (cor l j) by grind) (show 0 < -fvQ A B C (cor l i) by grind)
          exact absurd (show fvQ A B C (cor l j) * fvQ A B C (cor l i) < 0 by grind) hx
      exact ⟨_, mem_keep hj hf1, rfl⟩
  have n1 := mod_next h3 hi
  have n2 := mod_next h3 hj
  refine three_mem m0 hp hq (fun e => ?_) (fun e => ?_) (fun e => ?_)
  · subst e
    rcases hp1 with ⟨_, h⟩ | ⟨h, _⟩
    · exact h rfl
    · simp only [] at h; omega
  · subst e; simp only [] at hq1; omega
  · subst e
    rcases hp1 with ⟨h, _⟩ | ⟨h, _⟩ <;> omega
/-- The areas seen from o, along a chain. -/
def csum (o : Rat × Rat) : List (Rat × Rat) → Rat
  | a :: b :: t => crossQ o a b + csum o (b :: t)
  | _ => 0
theorem csum_dsum (o : Rat × Rat) : ∀ (a : Rat × Rat) (l : List (Rat × Rat)), csum o (a :: l) = dsum (a :: l) + det ((a :: l).getLast (by simp)) o - det a o
  | a, [] => by simp [csum, dsum]; grind
  | a, b :: t => by
    rw [csum, csum_dsum o b t, dsum, List.getLast_cons (List.cons_ne_nil b t)]
    unfold det crossQ
    grind
theorem area_csum (o a : Rat × Rat) (l : List (Rat × Rat)) : areaQ (a :: l) = csum o (a :: l ++ [a]) := by
  rw [area_dsum]
  have := csum_dsum o a (l ++ [a])
  rw [show a :: l ++ [a] = a :: (l ++ [a]) from rfl, this]
  have e : (a :: (l ++ [a])).getLast (List.cons_ne_nil a _) = a := by
    rw [List.getLast_cons (by simp)]; simp
  rw [e]; grind
section
variable (A B C : Rat)
def crossPt (a b : Rat × Rat) : Rat × Rat := wayQ a b (fvQ A B C a / (fvQ A B C a - fvQ A B C b))
/-- What of a side is kept, its end not with it. -/
def cutAt (a b : Rat × Rat) : List (Rat × Rat) := (if fvQ A B C a ≤ 0 then [a] else []) ++ (if fvQ A B C a * fvQ A B C b < 0 then [crossPt A B C a b] else [])
/-- What of a chain is kept, its end with it. -/
def cutC : List (Rat × Rat) → List (Rat × Rat)
  | a :: b :: t => cutAt A B C a b ++ cutC (b :: t)
  | [z] => if fvQ A B C z ≤ 0 then [z] else []
  | [] => []
/-- What a side gives to the area, seen from o. -/
def sideA (o a b : Rat × Rat) : Rat :=
  if fvQ A B C a ≤ 0 then (if fvQ A B C b ≤ 0 then crossQ o a b else if fvQ A B C a < 0 then crossQ o a (crossPt A B C a b) else 0)
  else if fvQ A B C b < 0 then crossQ o (crossPt A B C a b) b else 0
def sidesA (o : Rat × Rat) : List (Rat × Rat) → Rat
  | a :: b :: t => sideA A B C o a b + sidesA o (b :: t)
  | _ => 0
end
section
variable {A B C : Rat}
theorem crossPt_on {a b : Rat × Rat} (h : fvQ A B C a * fvQ A B C b < 0) : fvQ A B C (crossPt A B C a b) = 0 := by
  unfold crossPt
  rw [fv_way]
  have hne : fvQ A B C a - fvQ A B C b ≠ 0 := by
    intro e
    have := (ratio_in h).1
    rw [e, Rat.div_def, Rat.inv_zero, Rat.mul_zero] at this
    exact Rat.lt_irrefl this
  have hr := Rat.div_mul_cancel (a := fvQ A B C a) hne
  generalize fvQ A B C a / (fvQ A B C a - fvQ A B C b) = t at *
  grind
theorem neg_mul_pos {f g : Rat} (hf : f < 0) (hg : ¬ g ≤ 0) : f * g < 0 := by
  have := Rat.mul_pos (show 0 < -f by grind) (show 0 < g by grind); grind
theorem pos_mul_neg {f g : Rat} (hf : ¬ f ≤ 0) (hg : g < 0) : f * g < 0 := by
  have := Rat.mul_pos (show 0 < f by grind) (show 0 < -g by grind); grind
theorem no_mul {f g : Rat} (h : (f ≤ 0 ∧ g ≤ 0) ∨ (0 ≤ f ∧ 0 ≤ g)) : ¬ f * g < 0 := by
  intro k
  rcases h with ⟨h1, h2⟩ | ⟨h1, h2⟩
  · have := Rat.mul_nonneg (show 0 ≤ -f by grind) (show 0 ≤ -g by grind); grind
  · have := Rat.mul_nonneg h1 h2; grind
/-- The first one that is kept: the chain's first one, or one on the line. -/
theorem cutC_head : ∀ (t : List (Rat × Rat)) (b : Rat × Rat), (fvQ A B C b ≤ 0 → ∃ r, cutC A B C (b :: t) = b :: r) ∧ (¬ fvQ A B C b ≤ 0 → cutC A B C (b :: t) = [] ∨ ∃ h r, cutC A B C (b :: t) = h :: r ∧ fvQ A B C h = 0)
  | [], b => ⟨fun h => ⟨[], by simp [cutC, h]⟩, fun h => .inl (by simp [cutC, h])⟩
  | c :: t, b => by
    refine ⟨fun h => ⟨_, by rw [cutC, cutAt, if_pos h]; rfl⟩, fun h => ?_⟩
    rw [cutC, cutAt, if_neg h]
    by_cases hx : fvQ A B C b * fvQ A B C c < 0
    · rw [if_pos hx]; exact .inr ⟨_, _, rfl, crossPt_on hx⟩
    · rw [if_neg hx]
      simp only [List.nil_append]
      by_cases hc : fvQ A B C c ≤ 0
      · obtain ⟨r, hr⟩ := (cutC_head t c).1 hc
        have hc0 : fvQ A B C c = 0 := by
          by_cases k : fvQ A B C c < 0
          · exact absurd (pos_mul_neg h k) hx
          · grind
        exact .inr ⟨c, r, hr, hc0⟩
      · exact (cutC_head t c).2 hc
theorem on_line {o a b : Rat × Rat} (hAB : A ≠ 0 ∨ B ≠ 0) (ho : fvQ A B C o = 0) (ha : fvQ A B C a = 0) (hb : fvQ A B C b = 0) : crossQ o a b = 0 := by
  have e1 : A * crossQ o a b = 0 := by unfold fvQ at *; unfold crossQ; grind
  have e2 : B * crossQ o a b = 0 := by unfold fvQ at *; unfold crossQ; grind
  rcases hAB with h | h
  · rcases Rat.mul_eq_zero.1 e1 with k | k
    · exact absurd k h
    · exact k
  · rcases Rat.mul_eq_zero.1 e2 with k | k
    · exact absurd k h
    · exact k
/-- What is kept has the area of its sides, seen from the line. -/
theorem csum_cut {o : Rat × Rat} (hAB : A ≠ 0 ∨ B ≠ 0) (ho : fvQ A B C o = 0) : ∀ (t : List (Rat × Rat)) (a : Rat × Rat), csum o (cutC A B C (a :: t)) = sidesA A B C o (a :: t)
  | [], a => by
    rw [cutC, sidesA]
    split <;> rfl
    all_goals (intros; simp_all)
  | b :: t, a => by
    have ih := csum_cut hAB ho t b
    obtain ⟨hh1, hh2⟩ := cutC_head (A := A) (B := B) (C := C) t b
    rw [cutC, sidesA, ← ih, cutAt, sideA]
    by_cases ha : fvQ A B C a ≤ 0
    · rw [if_pos ha, if_pos ha]
      by_cases hb : fvQ A B C b ≤ 0
      · rw [if_pos hb, if_neg (no_mul (.inl ⟨ha, hb⟩))]
        obtain ⟨r, hr⟩ := hh1 hb
        rw [hr]; rfl
      · rw [if_neg hb]
        by_cases ha0 : fvQ A B C a < 0
        · have hx := neg_mul_pos ha0 hb
          rw [if_pos ha0, if_pos hx]
          have hX := crossPt_on hx
          rcases hh2 hb with h | ⟨h, r, hr, hz⟩
          · rw [h]; simp [csum]
          · rw [hr]
            simp only [List.cons_append, List.nil_append, csum]
            rw [on_line hAB ho hX hz]; grind
        · have ha1 : fvQ A B C a = 0 := by grind
          rw [if_neg ha0, if_neg (by rw [ha1, Rat.zero_mul]; exact Rat.lt_irrefl)]
          rcases hh2 hb with h | ⟨h, r, hr, hz⟩
          · rw [h]; simp [csum]; try grind
          · rw [hr]
            simp only [List.cons_append, List.nil_append, csum]
            rw [on_line hAB ho ha1 hz]
    · rw [if_neg ha, if_neg ha]
      by_cases hb : fvQ A B C b < 0
      · have hx := pos_mul_neg ha hb
        rw [if_pos hb, if_pos hx]
        obtain ⟨r, hr⟩ := hh1 (Rat.le_of_lt hb)
        rw [hr]; rfl
      · rw [if_neg hb, if_neg (no_mul (.inr ⟨by grind, by grind⟩))]
        simp only [List.nil_append]
        grind
end
end Go.Proofs.Ytdfabocecpcmcaa
/- The two halves' areas, seen from the line. Over no program; written ahead of layer 8's code. -/
namespace Go.Proofs.Ytdfabocecpcmcaa
open Go.MagM
section
variable {A B C : Rat}
theorem fv_neg (p : Rat × Rat) : fvQ (-A) (-B) (-C) p = -fvQ A B C p := by unfold fvQ; grind
theorem ratio_neg (f g : Rat) : (-f) / (-f - -g) = f / (f - g) := by
  by_cases h : f - g = 0
  · rw [show -f - -g = 0 by grind, h, Rat.div_def, Rat.div_def, Rat.inv_zero]; simp
  · have e1 := Rat.div_mul_cancel (a := f) h
    have e2 := Rat.div_mul_cancel (a := -f) (show -f - -g ≠ 0 by grind)
    generalize f / (f - g) = s at *
    generalize -f / (-f - -g) = t at *
    have e3 : (t - s) * (f - g) = 0 := by grind
    rcases Rat.mul_eq_zero.1 e3 with k | k
    · grind
    · exact absurd k h
theorem crossPt_neg (a b : Rat × Rat) : crossPt (-A) (-B) (-C) a b = crossPt A B C a b := by
  unfold crossPt; rw [fv_neg, fv_neg, ratio_neg]
theorem cross_split (o a b : Rat × Rat) (t : Rat) : crossQ o a (wayQ a b t) + crossQ o (wayQ a b t) b = crossQ o a b := by
  unfold crossQ wayQ; grind
/-- A side's two shares make the side. -/
theorem sideA_add {o a b : Rat × Rat} (hAB : A ≠ 0 ∨ B ≠ 0) (ho : fvQ A B C o = 0) : sideA A B C o a b + sideA (-A) (-B) (-C) o a b = crossQ o a b := by
  unfold sideA
  rw [fv_neg, fv_neg, crossPt_neg]
  have hs : crossQ o a (crossPt A B C a b) + crossQ o (crossPt A B C a b) b = crossQ o a b := cross_split o a b _
  have hl := on_line (a := a) (b := b) hAB ho
  have t1 : (fvQ A B C a < 0 ∨ fvQ A B C a = 0) ∨ 0 < fvQ A B C a := by grind
  have t2 : (fvQ A B C b < 0 ∨ fvQ A B C b = 0) ∨ 0 < fvQ A B C b := by grind
  generalize crossQ o a (crossPt A B C a b) = p at *
  generalize crossQ o (crossPt A B C a b) b = q at *
  generalize crossQ o a b = r at *
  generalize fvQ A B C a = f at *
  generalize fvQ A B C b = g at *
  rcases t1 with (h | h) | h <;> rcases t2 with (k | k) | k
  all_goals (repeat' split) <;> grind
theorem sidesA_add {o : Rat × Rat} (hAB : A ≠ 0 ∨ B ≠ 0) (ho : fvQ A B C o = 0) : ∀ l : List (Rat × Rat), sidesA A B C o l + sidesA (-A) (-B) (-C) o l = csum o l
  | [] => by simp [sidesA, csum, Rat.add_zero]
  | [a] => by simp [sidesA, csum, Rat.add_zero]
  | a :: b :: t => by
    have h1 := sidesA_add hAB ho (b :: t)
    have h2 := sideA_add (a := a) (b := b) hAB ho
    rw [sidesA, sidesA, csum]
    grind
/-- A line has a point. -/
theorem line_pt (hAB : A ≠ 0 ∨ B ≠ 0) : ∃ o, fvQ A B C o = 0 := by
  rcases hAB with h | h
  · refine ⟨(C / A, 0), ?_⟩
    unfold fvQ; simp only []
    have := Rat.div_mul_cancel (a := C) h
    generalize C / A = t at *
    grind
  · refine ⟨(0, C / B), ?_⟩
    unfold fvQ; simp only []
    have := Rat.div_mul_cancel (a := C) h
    generalize C / B = t at *
    grind
/-- What is kept of both halves has the area of the whole, as open chains. -/
theorem csum_halves {o : Rat × Rat} (hAB : A ≠ 0 ∨ B ≠ 0) (ho : fvQ A B C o = 0) (a : Rat × Rat) (t : List (Rat × Rat)) : csum o (cutC A B C (a :: t)) + csum o (cutC (-A) (-B) (-C) (a :: t)) = csum o (a :: t) := by
  rw [csum_cut hAB ho, csum_cut (by grind) (by rw [fv_neg, ho]; grind), sidesA_add hAB ho]
end
end Go.Proofs.Ytdfabocecpcmcaa
/- The areas of the two halves of a polygon make its area. Over no program; written ahead of layer 8's code. -/
namespace Go.Proofs.Ytdfabocecpcmcaa
open Go.MagM
section
variable {A B C : Rat}
theorem part_pos {l : List (Rat × Rat)} (i : Nat) : (partT A B C l i).map (posQ l) = cutAt A B C (cor l i) (cor l (i + 1)) := by
  unfold partT cutAt
  rw [List.map_append]
  congr 1
  · split
    · simp only [List.map_cons, List.map_nil, posQ_zero]
    · rfl
  · split <;> rfl
theorem cutQ_flat (l : List (Rat × Rat)) : cutQ A B C l = (List.range l.length).flatMap (fun i => cutAt A B C (cor l i) (cor l (i + 1))) := by
  unfold cutQ cutT
  rw [List.map_flatMap]
  congr 1
  funext i
  exact part_pos i
theorem cutC_flat : ∀ (t : List (Rat × Rat)) (a z : Rat × Rat), (a :: t).getLast? = some z →
    cutC A B C (a :: t) = (List.range t.length).flatMap (fun i => cutAt A B C ((a :: t).getD i (0, 0)) ((a :: t).getD (i + 1) (0, 0))) ++ (if fvQ A B C z ≤ 0 then [z] else [])
  | [], a, z, h => by
    simp at h; subst h
    simp [cutC]
  | b :: t, a, z, h => by
    have ih := cutC_flat t b z (by rw [← h]; simp [List.getLast?_cons])
    rw [cutC, ih, List.length_cons, List.range_succ_eq_map, List.flatMap_cons, List.flatMap_map, List.append_assoc]
    rfl
/-- The chain that goes round. -/
def ring : List (Rat × Rat) → List (Rat × Rat)
  | [] => []
  | a :: t => a :: t ++ [a]
theorem ring_at {a : Rat × Rat} {t : List (Rat × Rat)} {i : Nat} (h : i ≤ (a :: t).length) : (a :: t ++ [a]).getD i (0, 0) = cor (a :: t) i := by
  rcases Nat.lt_or_ge i (a :: t).length with k | k
  · unfold cor
    rw [Nat.mod_eq_of_lt k, List.getD_eq_getElem?_getD, List.getD_eq_getElem?_getD, List.getElem?_append_left k]
  · have e : i = (a :: t).length := by omega
    subst e
    have e2 : cor (a :: t) (a :: t).length = cor (a :: t) 0 := by have := cor_add (a :: t) 0; rwa [Nat.zero_add] at this
    rw [e2, List.getD_eq_getElem?_getD, List.getElem?_append_right (Nat.le_refl _)]
    simp [cor]
theorem cut_ring (a : Rat × Rat) (t : List (Rat × Rat)) : cutC A B C (a :: t ++ [a]) = cutQ A B C (a :: t) ++ (if fvQ A B C a ≤ 0 then [a] else []) := by
  have e := cutC_flat (A := A) (B := B) (C := C) (t ++ [a]) a a (by simp [List.getLast?_cons])
  rw [show a :: t ++ [a] = a :: (t ++ [a]) from rfl, e, cutQ_flat]
  congr 1
  have el : (t ++ [a]).length = (a :: t).length := by simp
  rw [el, List.flatMap, List.flatMap]
  congr 1
  apply List.map_congr_left
  intro i hi
  have hi := List.mem_range.1 hi
  rw [show a :: (t ++ [a]) = a :: t ++ [a] from rfl, ring_at (Nat.le_of_lt hi), ring_at hi]
/-- The last one that is kept, of a chain that ends beyond: one on the line. -/
theorem cutC_last : ∀ (t : List (Rat × Rat)) (a z : Rat × Rat), (a :: t).getLast? = some z → ¬ fvQ A B C z ≤ 0 → cutC A B C (a :: t) = [] ∨ ∃ r h, cutC A B C (a :: t) = r ++ [h] ∧ fvQ A B C h = 0
  | [], a, z, h, hz => by
    simp at h; subst h
    exact .inl (by simp [cutC, hz])
  | b :: t, a, z, h, hz => by
    have ih := cutC_last t b z (by rw [← h]; simp [List.getLast?_cons]) hz
    rw [cutC]
    rcases ih with ih | ⟨r, k, hr, hk⟩
    · have hb : ¬ fvQ A B C b ≤ 0 := by
        intro k
        obtain ⟨r, hr⟩ := (cutC_head (A := A) (B := B) (C := C) t b).1 k
        rw [hr] at ih; simp at ih
      rw [ih, List.append_nil, cutAt]
      by_cases ha : fvQ A B C a < 0
      · have hx := neg_mul_pos ha hb
        rw [if_pos (Rat.le_of_lt ha), if_pos hx]
        exact .inr ⟨[a], _, rfl, crossPt_on hx⟩
      · rw [if_neg (no_mul (.inr ⟨by grind, by grind⟩)), List.append_nil]
        by_cases h0 : fvQ A B C a ≤ 0
        · rw [if_pos h0]; exact .inr ⟨[], a, rfl, by grind⟩
        · rw [if_neg h0]; exact .inl rfl
    · rw [hr]; exact .inr ⟨cutAt A B C a b ++ r, k, by rw [List.append_assoc], hk⟩
theorem csum_snoc (o : Rat × Rat) : ∀ (r : List (Rat × Rat)) (k h : Rat × Rat), csum o (r ++ [k] ++ [h]) = csum o (r ++ [k]) + crossQ o k h
  | [], k, h => by simp [csum, Rat.add_zero, Rat.zero_add]
  | [a], k, h => by simp [csum, Rat.add_zero]
  | a :: b :: r, k, h => by
    have := csum_snoc o (b :: r) k h
    simp only [List.cons_append, csum] at this ⊢
    rw [this, Rat.add_assoc]
/-- The area of what is cut. -/
theorem area_cut {o : Rat × Rat} (hAB : A ≠ 0 ∨ B ≠ 0) (ho : fvQ A B C o = 0) (a : Rat × Rat) (t : List (Rat × Rat)) : areaQ (cutQ A B C (a :: t)) = sidesA A B C o (a :: t ++ [a]) := by
  rw [show a :: t ++ [a] = a :: (t ++ [a]) from rfl, ← csum_cut hAB ho]
  have e := cut_ring (A := A) (B := B) (C := C) a t
  rw [show a :: t ++ [a] = a :: (t ++ [a]) from rfl] at e
  obtain ⟨h1, h2⟩ := cutC_head (A := A) (B := B) (C := C) (t ++ [a]) a
  by_cases ha : fvQ A B C a ≤ 0
  · rw [if_pos ha] at e
    obtain ⟨r, hr⟩ := h1 ha
    match hq : cutQ A B C (a :: t) with
    | [] => rw [hq, List.nil_append] at e; rw [e]; simp [areaQ, csum]
    | k :: u =>
      rw [hq] at e
      have ek : k = a := by rw [hr] at e; simp at e; exact e.1.symm
      subst ek
      rw [e, area_csum o]
  · rw [if_neg ha, List.append_nil] at e
    rw [e]
    have hl := cutC_last (A := A) (B := B) (C := C) (t ++ [a]) a a (by simp [List.getLast?_cons]) ha
    rw [e] at hl
    have hh := h2 ha
    rw [e] at hh
    rcases hh with hh | ⟨h, r, hh, hf⟩
    · rw [hh]; simp [areaQ, csum]
    · rcases hl with hl | ⟨u, k, hl, hk⟩
      · rw [hl] at hh; simp at hh
      · have : areaQ (cutQ A B C (a :: t)) = csum o (cutQ A B C (a :: t) ++ [h]) := by rw [hh]; exact area_csum o h r
        rw [this]
        rw [hl, csum_snoc, on_line hAB ho hk hf, Rat.add_zero]
/-- The halves have the area of the whole. -/
theorem area_halves (hAB : A ≠ 0 ∨ B ≠ 0) : ∀ l : List (Rat × Rat), areaQ (cutQ A B C l) + areaQ (cutQ (-A) (-B) (-C) l) = areaQ l
  | [] => by
    have e : areaQ [] = 0 := by simp [areaQ]
    have e2 : ∀ A B C, cutQ A B C [] = [] := fun _ _ _ => rfl
    rw [e2, e2, e]; exact Rat.add_zero 0
  | a :: t => by
    obtain ⟨o, ho⟩ := line_pt (C := C) hAB
    rw [area_cut hAB ho, area_cut (o := o) (by grind) (by rw [fv_neg, ho]; grind), sidesA_add hAB ho, area_csum o]
end
end Go.Proofs.Ytdfabocecpcmcaa
/- A polygon that is cut, none if there is no area; cut by several half-planes. Over no program; written ahead of layer 8's code. -/
namespace Go.Proofs.Ytdfabocecpcmcaa
open Go.MagM
def clipQ (A B C : Rat) (l : List (Rat × Rat)) : List (Rat × Rat) := if ∃ i, i < l.length ∧ fvQ A B C (cor l i) < 0 then cutQ A B C l else []
theorem clipQ_pos {A B C : Rat} {l : List (Rat × Rat)} (h : ∃ i, i < l.length ∧ fvQ A B C (cor l i) < 0) : clipQ A B C l = cutQ A B C l := if_pos h
theorem clipQ_neg {A B C : Rat} {l : List (Rat × Rat)} (h : ¬ ∃ i, i < l.length ∧ fvQ A B C (cor l i) < 0) : clipQ A B C l = [] := if_neg h
theorem clip_conv {A B C : Rat} {l : List (Rat × Rat)} (hl : Conv l) (h : clipQ A B C l ≠ []) : Conv (clipQ A B C l) := by
  by_cases k : ∃ i, i < l.length ∧ fvQ A B C (cor l i) < 0
  · rw [clipQ_pos k]
    obtain ⟨i, hi, hf⟩ := k
    exact (hl.tri.cut hl.1).conv (cut_three hl.1 hi hf)
  · exact absurd (clipQ_neg k) h
theorem clip_points {A B C : Rat} {l : List (Rat × Rat)} (hl : Conv l) (h : clipQ A B C l ≠ []) (s : Rat × Rat) : InL (clipQ A B C l) s ↔ InL l s ∧ fvQ A B C s ≤ 0 := by
  have hc := clip_conv hl h
  by_cases k : ∃ i, i < l.length ∧ fvQ A B C (cor l i) < 0
  · rw [clipQ_pos k] at hc ⊢
    obtain ⟨i, hi, hf⟩ := k
    exact ⟨cut_in hl hc, fun ⟨h1, h2⟩ => in_cut hl hc hi hf h1 h2⟩
  · exact absurd (clipQ_neg k) h
/-- Three points that are in no line: there is area left. -/
theorem clip_some {A B C : Rat} {l : List (Rat × Rat)} (hAB : A ≠ 0 ∨ B ≠ 0) (hl : Conv l) {a b c : Rat × Rat} (hx : crossQ a b c ≠ 0) (ha : InL l a ∧ fvQ A B C a ≤ 0) (hb : InL l b ∧ fvQ A B C b ≤ 0) (hc : InL l c ∧ fvQ A B C c ≤ 0) : clipQ A B C l ≠ [] := by
  by_cases k : ∃ i, i < l.length ∧ fvQ A B C (cor l i) < 0
  · rw [clipQ_pos k]
    obtain ⟨i, hi, hf⟩ := k
    intro e
    have := cut_three hl.1 hi hf
    rw [e] at this; simp at this
  · exfalso
    have hz : ∀ s, InL l s → 0 ≤ fvQ A B C s := by
      intro s hs
      have := hull_le hl hs (A := -A) (B := -B) (C := -C) (fun i hi => by
        have : ¬ fvQ A B C (cor l i) < 0 := fun h => k ⟨i, hi, h⟩
        unfold fvQ at this; grind)
      unfold fvQ; grind
    have za := hz a ha.1
    have zb := hz b hb.1
    have zc := hz c hc.1
    exact hx (on_line hAB (o := a) (a := b) (b := c) (Rat.le_antisymm ha.2 za) (Rat.le_antisymm hb.2 zb) (Rat.le_antisymm hc.2 zc))
/-- Each corner beyond, or on the line: no area. -/
theorem area_none {A B C : Rat} {o : Rat × Rat} (hAB : A ≠ 0 ∨ B ≠ 0) (ho : fvQ A B C o = 0) : ∀ l : List (Rat × Rat), (∀ p, p ∈ l → 0 ≤ fvQ A B C p) → sidesA A B C o l = 0
  | [], _ => rfl
  | [a], _ => rfl
  | a :: b :: t, h => by
    have ih := area_none hAB ho (b :: t) (fun p hp => h p (by simp at hp ⊢; exact .inr hp))
    have ha := h a (by simp)
    have hb := h b (by simp)
    have hl := on_line (a := a) (b := b) hAB ho
    rw [sidesA, ih, sideA]
    (repeat' split) <;> grind
theorem area_clip {A B C : Rat} (hAB : A ≠ 0 ∨ B ≠ 0) (l : List (Rat × Rat)) : areaQ (clipQ A B C l) = areaQ (cutQ A B C l) := by
  by_cases k : ∃ i, i < l.length ∧ fvQ A B C (cor l i) < 0
  · rw [clipQ_pos k]
  · rw [clipQ_neg k]
    have e : areaQ [] = 0 := by simp [areaQ]
    rw [e]
    match l, k with
    | [], _ => exact e.symm
    | a :: t, k =>
      obtain ⟨o, ho⟩ := line_pt (C := C) hAB
      rw [area_cut hAB ho, area_none hAB ho]
      intro p hp
      have hp : p ∈ a :: t := by simp at hp ⊢; rcases hp with h | h | h <;> simp [h]
      obtain ⟨i, hi, rfl⟩ := mem_cor hp
      have : ¬ fvQ A B C (cor (a :: t) i) < 0 := fun h => k ⟨i, hi, h⟩
      grind
theorem clip_halves {A B C : Rat} (hAB : A ≠ 0 ∨ B ≠ 0) (l : List (Rat × Rat)) : areaQ (clipQ A B C l) + areaQ (clipQ (-A) (-B) (-C) l) = areaQ l := by
  rw [area_clip hAB, area_clip (by grind), area_halves hAB]
/-- Cut by several. -/
def foldQ (hs : List (Rat × Rat × Rat)) (l : List (Rat × Rat)) : List (Rat × Rat) := hs.foldl (fun l h => clipQ h.1 h.2.1 h.2.2 l) l
def Half0 (h : Rat × Rat × Rat) : Prop := h.1 ≠ 0 ∨ h.2.1 ≠ 0
def InH (h : Rat × Rat × Rat) (s : Rat × Rat) : Prop := fvQ h.1 h.2.1 h.2.2 s ≤ 0
def Reg (hs : List (Rat × Rat × Rat)) (l : List (Rat × Rat)) (s : Rat × Rat) : Prop := InL l s ∧ ∀ h, h ∈ hs → InH h s
theorem clip_nil {A B C : Rat} : clipQ A B C [] = [] := clipQ_neg (fun ⟨_, h, _⟩ => by simp at h)
theorem fold_nil : ∀ hs, foldQ hs [] = []
  | [] => rfl
  | h :: t => by
    have := fold_nil t
    unfold foldQ at this ⊢
    rw [List.foldl_cons, clip_nil]; exact this
theorem fold_reg : ∀ (hs : List (Rat × Rat × Rat)) (l : List (Rat × Rat)), (∀ h, h ∈ hs → Half0 h) → Conv l →
    (foldQ hs l ≠ [] → Conv (foldQ hs l) ∧ ∀ s, InL (foldQ hs l) s ↔ Reg hs l s) ∧
    (∀ a b c, crossQ a b c ≠ 0 → Reg hs l a → Reg hs l b → Reg hs l c → foldQ hs l ≠ [])
  | [], l, _, hl => ⟨fun _ => ⟨hl, fun s => ⟨fun h => ⟨h, fun _ k => by simp at k⟩, fun h => h.1⟩⟩, fun _ _ _ _ _ _ _ e => by
    have : l = [] := e
    subst this; have := hl.1; simp at this⟩
  | h :: t, l, h0, hl => by
    have hh := h0 h (by simp)
    have ht : ∀ k, k ∈ t → Half0 k := fun k hk => h0 k (by simp [hk])
    have ef : foldQ (h :: t) l = foldQ t (clipQ h.1 h.2.1 h.2.2 l) := rfl
    rw [ef]
    by_cases hn : clipQ h.1 h.2.1 h.2.2 l = []
    · refine ⟨fun k => absurd (by rw [hn]; exact fold_nil t) k, fun a b c hx ha hb hc => ?_⟩
      exact absurd hn (clip_some hh hl hx ⟨ha.1, ha.2 h (by simp)⟩ ⟨hb.1, hb.2 h (by simp)⟩ ⟨hc.1, hc.2 h (by simp)⟩)
    · obtain ⟨i1, i2⟩ := fold_reg t _ ht (clip_conv hl hn)
      have er : ∀ s, Reg t (clipQ h.1 h.2.1 h.2.2 l) s ↔ Reg (h :: t) l s := by
        intro s
        unfold Reg
        rw [clip_points hl hn]
        simp only [List.mem_cons, forall_eq_or_imp]
        exact and_assoc
      refine ⟨fun k => ⟨(i1 k).1, fun s => ((i1 k).2 s).trans (er s)⟩, fun a b c hx ha hb hc => i2 a b c hx ((er a).2 ha) ((er b).2 hb) ((er c).2 hc)⟩
end Go.Proofs.Ytdfabocecpcmcaa
/- The cells of points fill a polygon. Over no program; written ahead of layer 8's code. -/
namespace Go.Proofs.Ytdfabocecpcmcaa
open Go.MagM
def Conv0 (l : List (Rat × Rat)) : Prop := l = [] ∨ Conv l
theorem in_nil {s : Rat × Rat} : ¬ InL [] s := fun h => by have := h.1; simp at this
theorem fold_conv {hs : List (Rat × Rat × Rat)} {l : List (Rat × Rat)} (h0 : ∀ h, h ∈ hs → Half0 h) (hl : Conv0 l) : Conv0 (foldQ hs l) := by
  by_cases h : foldQ hs l = []
  · exact .inl h
  · rcases hl with rfl | hl
    · exact absurd (fold_nil hs) h
    · exact .inr ((fold_reg hs l h0 hl).1 h).1
theorem fold_some {hs : List (Rat × Rat × Rat)} {l : List (Rat × Rat)} (h0 : ∀ h, h ∈ hs → Half0 h) (hl : Conv0 l) : foldQ hs l ≠ [] ↔ ∃ a b c, crossQ a b c ≠ 0 ∧ Reg hs l a ∧ Reg hs l b ∧ Reg hs l c := by
  rcases hl with rfl | hl
  · exact ⟨fun h => absurd (fold_nil hs) h, fun ⟨_, _, _, _, h, _⟩ => absurd h.1 in_nil⟩
  · obtain ⟨f1, f2⟩ := fold_reg hs l h0 hl
    refine ⟨fun h => ?_, fun ⟨a, b, c, hx, ha, hb, hc⟩ => f2 a b c hx ha hb hc⟩
    obtain ⟨hc, hr⟩ := f1 h
    have h3 := hc.1
    refine ⟨cor (foldQ hs l) 0, cor (foldQ hs l) 1, cor (foldQ hs l) 2, ?_, (hr _).1 (corner_in hc (by omega)), (hr _).1 (corner_in hc (by omega)), (hr _).1 (corner_in hc (by omega))⟩
    have := hc.tri.at (i := 0) (j := 1) (k := 2) (by omega) (by omega) (by omega)
    intro e; rw [e] at this; exact Rat.lt_irrefl this
/-- The same points: the same polygon, begun elsewhere. -/
theorem fold_same {hs ks : List (Rat × Rat × Rat)} {l m : List (Rat × Rat)} (h0 : ∀ h, h ∈ hs → Half0 h) (k0 : ∀ h, h ∈ ks → Half0 h) (hl : Conv0 l) (hm : Conv0 m) (h : ∀ s, Reg hs l s ↔ Reg ks m s) :
    (∃ u v, foldQ hs l = u ++ v ∧ foldQ ks m = v ++ u) ∧ (foldQ hs l).length = (foldQ ks m).length ∧ areaQ (foldQ hs l) = areaQ (foldQ ks m) := by
  have s1 := fold_some h0 hl
  have s2 := fold_some k0 hm
  have e : foldQ hs l ≠ [] ↔ foldQ ks m ≠ [] := by
    rw [s1, s2]
    simp only [h]
  by_cases hn : foldQ hs l = []
  · have hn2 : foldQ ks m = [] := Decidable.byContradiction fun k => (e.2 k) hn
    rw [hn, hn2]; exact ⟨⟨[], [], rfl, rfl⟩, rfl, rfl⟩
  · have hn2 := e.1 hn
    have c1 : Conv l := hl.resolve_left (fun k => hn (by rw [k]; exact fold_nil hs))
    have c2 : Conv m := hm.resolve_left (fun k => hn2 (by rw [k]; exact fold_nil ks))
    obtain ⟨p1, p2⟩ := (fold_reg hs l h0 c1).1 hn
    obtain ⟨q1, q2⟩ := (fold_reg ks m k0 c2).1 hn2
    exact same_points p1 q1 (fun s => (p2 s).trans ((h s).trans (q2 s).symm))
def dQ (s p : Rat × Rat) : Rat := (s.1 - p.1) * (s.1 - p.1) + (s.2 - p.2) * (s.2 - p.2)
/-- As near to p as to q, or nearer. -/
def nearH (p q : Rat × Rat) : Rat × Rat × Rat := (2 * (q.1 - p.1), 2 * (q.2 - p.2), q.1 * q.1 + q.2 * q.2 - p.1 * p.1 - p.2 * p.2)
theorem near_d (p q s : Rat × Rat) : InH (nearH p q) s ↔ dQ s p ≤ dQ s q := by
  unfold InH nearH fvQ dQ; simp only []
  constructor <;> intro h <;> grind
theorem near_half {p q : Rat × Rat} (h : p ≠ q) : Half0 (nearH p q) := by
  unfold Half0 nearH; simp only []
  by_cases k : p.1 = q.1
  · right; intro e
    exact h (Prod.ext k (by grind))
  · left; intro e; exact k (by grind)
theorem near_neg (p q : Rat × Rat) : nearH q p = (-(nearH p q).1, -(nearH p q).2.1, -(nearH p q).2.2) := by
  unfold nearH; simp only []
  refine Prod.ext ?_ (Prod.ext ?_ ?_) <;> simp only [] <;> grind
theorem near_halves {p q : Rat × Rat} (h : p ≠ q) (hs : List (Rat × Rat × Rat)) (l : List (Rat × Rat)) : areaQ (foldQ (hs ++ [nearH p q]) l) + areaQ (foldQ (hs ++ [nearH q p]) l) = areaQ (foldQ hs l) := by
  unfold foldQ
  rw [List.foldl_append, List.foldl_append, near_neg p q]
  exact clip_halves (near_half h) _
def otherH (ps : List (Rat × Rat)) (p : Rat × Rat) : List (Rat × Rat × Rat) := (ps.filter (fun q => decide (q ≠ p))).map (nearH p)
theorem other_half {ps : List (Rat × Rat)} {p : Rat × Rat} : ∀ h, h ∈ otherH ps p → Half0 h := by
  intro h hh
  unfold otherH at hh
  rw [List.mem_map] at hh
  obtain ⟨q, hq, rfl⟩ := hh
  rw [List.mem_filter] at hq
  exact near_half (fun e => (of_decide_eq_true hq.2) e.symm)
theorem other_in {ps : List (Rat × Rat)} {p s : Rat × Rat} : (∀ h, h ∈ otherH ps p → InH h s) ↔ ∀ q, q ∈ ps → dQ s p ≤ dQ s q := by
  unfold otherH
  constructor
  · intro h q hq
    by_cases e : q = p
    · subst e; exact Rat.le_refl
    · exact (near_d p q s).1 (h _ (List.mem_map.2 ⟨q, List.mem_filter.2 ⟨hq, decide_eq_true e⟩, rfl⟩))
  · intro h k hk
    rw [List.mem_map] at hk
    obtain ⟨q, hq, rfl⟩ := hk
    exact (near_d p q s).2 (h q (List.mem_filter.1 hq).1)
def cellA (ps : List (Rat × Rat)) (l : List (Rat × Rat)) (p : Rat × Rat) : Rat := areaQ (foldQ (otherH ps p) l)
theorem fold_app (hs ks : List (Rat × Rat × Rat)) (l : List (Rat × Rat)) : foldQ (hs ++ ks) l = foldQ ks (foldQ hs l) := by unfold foldQ; rw [List.foldl_append]
def sumQ : List Rat → Rat
  | [] => 0
  | a :: t => a + sumQ t
theorem sum_sub (f g h : Rat × Rat → Rat) : ∀ l : List (Rat × Rat), (∀ p, p ∈ l → f p + g p = h p) → sumQ (l.map f) + sumQ (l.map g) = sumQ (l.map h)
  | [], _ => Rat.add_zero 0
  | a :: t, k => by
    have h1 := sum_sub f g h t (fun p hp => k p (by simp [hp]))
    have h2 := k a (by simp)
    simp only [List.map_cons, sumQ]
    grind
/-- The cells fill what they are cut from. -/
theorem cells_fill : ∀ (ps : List (Rat × Rat)) (l : List (Rat × Rat)), ps ≠ [] → ps.Nodup → Conv0 l → sumQ (ps.map (cellA ps l)) = areaQ l
  | [], _, h, _, _ => absurd rfl h
  | [q], l, _, _, _ => by
    have e : otherH [q] q = [] := by simp [otherH]
    simp only [List.map_cons, List.map_nil, sumQ, cellA, e]
    exact Rat.add_zero _
  | q :: p1 :: t1, l, _, hn, hl => by
    have ht := List.nodup_cons.1 hn
    generalize hts : p1 :: t1 = t at *
    have ne : t ≠ [] := by rw [← hts]; simp
    have i1 := cells_fill t l ne ht.2 hl
    have hK := other_half (ps := q :: t) (p := q)
    have i2 := cells_fill t (foldQ (otherH (q :: t) q) l) ne ht.2 (fold_conv hK hl)
    rw [List.map_cons, sumQ]
    have key : ∀ p, p ∈ t → cellA (q :: t) l p + cellA t (foldQ (otherH (q :: t) q) l) p = cellA t l p := by
      intro p hp
      have hpq : p ≠ q := fun e => ht.1 (e ▸ hp)
      have e1 : cellA (q :: t) l p = areaQ (foldQ (otherH t p ++ [nearH p q]) l) := by
        refine (fold_same (hs := otherH (q :: t) p) (ks := otherH t p ++ [nearH p q]) other_half ?_ hl hl ?_).2.2
        · intro h hh
          rcases List.mem_append.1 hh with hh | hh
          · exact other_half h hh
          · simp at hh; subst hh; exact near_half hpq
        · intro s
          refine and_congr_right fun _ => ?_
          rw [other_in]
          constructor
          · intro h k hk
            rcases List.mem_append.1 hk with hk | hk
            · exact (other_in.2 (fun x hx => h x (List.mem_cons_of_mem q hx))) k hk
            · simp at hk; subst hk; exact (near_d p q s).2 (h q List.mem_cons_self)
          · intro h x hx
            rcases List.mem_cons.1 hx with hx | hx
            · subst hx; exact (near_d p x s).1 (h _ (by simp))
            · exact (other_in.1 (fun k hk => h k (List.mem_append_left _ hk))) x hx
      have e2 : cellA t (foldQ (otherH (q :: t) q) l) p = areaQ (foldQ (otherH t p ++ [nearH q p]) l) := by
        unfold cellA
        rw [← fold_app]
        refine (fold_same ?_ ?_ hl hl ?_).2.2
        · intro h hh
          rcases List.mem_append.1 hh with hh | hh
          · exact other_half h hh
          · exact other_half h hh
        · intro h hh
          rcases List.mem_append.1 hh with hh | hh
          · exact other_half h hh
          · simp at hh; subst hh; exact near_half (Ne.symm hpq)
        · intro s
          refine and_congr_right fun _ => ?_
          constructor
          · intro h k hk
            rcases List.mem_append.1 hk with hk | hk
            · exact h k (List.mem_append_right _ hk)
            · simp at hk; subst hk
              exact (near_d q p s).2 ((other_in.1 (fun k hk => h k (List.mem_append_left _ hk))) p (List.mem_cons_of_mem q hp))
          · intro h k hk
            have a1 := other_in.1 (fun k hk => h k (List.mem_append_left [nearH q p] hk))
            have a2 := (near_d q p s).1 (h (nearH q p) (by simp))
            rcases List.mem_append.1 hk with hk | hk
            · refine (other_in (ps := q :: t) (p := q) (s := s)).2 ?_ k hk
              intro x hx
              rcases List.mem_cons.1 hx with hx | hx
              · subst hx; exact Rat.le_refl
              · exact Rat.le_trans a2 (a1 x hx)
            · exact h k (List.mem_append_left _ hk)
      rw [e1, e2]
      exact near_halves hpq _ _
    have := sum_sub _ _ _ t key
    have eq : cellA (q :: t) l q = areaQ (foldQ (otherH (q :: t) q) l) := rfl
    rw [eq]; grind
end Go.Proofs.Ytdfabocecpcmcaa
/- A convex polygon has area; which half-plane cuts first plays no part; two cells have no area in common. Over no program; written ahead of layer 8's code. -/
namespace Go.Proofs.Ytdfabocecpcmcaa
open Go.MagM
theorem csum_nonneg (a : Rat × Rat) : ∀ (r : List (Rat × Rat)) (c : Rat × Rat), (∀ u v, List.Sublist [u, v] (c :: r) → 0 < crossQ a u v) → 0 ≤ csum a (c :: r ++ [a])
  | [], c, _ => by simp [csum, crossQ_aba, Rat.add_zero]
  | d :: r, c, h => by
    have ih := csum_nonneg a r d (fun u v hs => h u v (List.Sublist.cons c hs))
    have h1 := h c d (List.Sublist.cons_cons c (List.Sublist.cons_cons d (List.nil_sublist r)))
    simp only [List.cons_append, csum] at ih ⊢
    grind
theorem area_pos {l : List (Rat × Rat)} (h : Conv l) : 0 < areaQ l := by
  have h3 := h.1
  have ht := h.tri
  match l, h3, ht with
  | a :: b :: c :: r, _, ht =>
    rw [area_csum a]
    have hp : ∀ u v, List.Sublist [u, v] (b :: c :: r) → 0 < crossQ a u v := fun u v hs => ht a u v (List.Sublist.cons_cons a hs)
    have h1 := hp b c (List.Sublist.cons_cons b (List.Sublist.cons_cons c (List.nil_sublist r)))
    have h2 := csum_nonneg a r c (fun u v hs => hp u v (List.Sublist.cons b hs))
    simp only [List.cons_append, csum, crossQ_aab] at h2 ⊢
    grind
theorem area_nonneg {l : List (Rat × Rat)} (h : Conv0 l) : 0 ≤ areaQ l := by
  rcases h with rfl | h
  · have e : areaQ [] = 0 := by simp [areaQ]
    rw [e]; exact Rat.le_refl
  · exact Rat.le_of_lt (area_pos h)
theorem area_zero {l : List (Rat × Rat)} (h : Conv0 l) : areaQ l = 0 ↔ l = [] := by
  constructor
  · intro e
    rcases h with rfl | h
    · rfl
    · have := area_pos h; rw [e] at this; exact absurd this Rat.lt_irrefl
  · rintro rfl; simp [areaQ]
/-- Which one cuts first plays no part. -/
theorem clip_comm {h k : Rat × Rat × Rat} {l : List (Rat × Rat)} (hh : Half0 h) (hk : Half0 k) (hl : Conv0 l) :
    (∃ u v, foldQ [h, k] l = u ++ v ∧ foldQ [k, h] l = v ++ u) ∧ (foldQ [h, k] l).length = (foldQ [k, h] l).length ∧ areaQ (foldQ [h, k] l) = areaQ (foldQ [k, h] l) := by
  refine fold_same ?_ ?_ hl hl (fun s => and_congr_right fun _ => ?_)
  · intro x hx; simp at hx; rcases hx with rfl | rfl <;> assumption
  · intro x hx; simp at hx; rcases hx with rfl | rfl <;> assumption
  · simp only [List.mem_cons, List.not_mem_nil, or_false, forall_eq_or_imp, forall_eq]
    exact and_comm
/-- Cut twice, nothing more is lost. -/
theorem clip_twice {h : Rat × Rat × Rat} {l : List (Rat × Rat)} (hh : Half0 h) (hl : Conv0 l) :
    (∃ u v, foldQ [h, h] l = u ++ v ∧ foldQ [h] l = v ++ u) ∧ (foldQ [h, h] l).length = (foldQ [h] l).length ∧ areaQ (foldQ [h, h] l) = areaQ (foldQ [h] l) := by
  refine fold_same ?_ ?_ hl hl (fun s => and_congr_right fun _ => ?_)
  · intro x hx; simp at hx; subst hx; assumption
  · intro x hx; simp at hx; subst hx; assumption
  · simp
/-- Two cells have no area in common: their common points lie on one line. -/
theorem cells_apart {ps : List (Rat × Rat)} {p q : Rat × Rat} (hp : p ∈ ps) (hq : q ∈ ps) {l : List (Rat × Rat)} {s : Rat × Rat} (h1 : Reg (otherH ps p) l s) (h2 : Reg (otherH ps q) l s) : fvQ (nearH p q).1 (nearH p q).2.1 (nearH p q).2.2 s = 0 := by
  have a := (near_d p q s).2 (other_in.1 h1.2 q hq)
  have b := (near_d q p s).2 (other_in.1 h2.2 p hp)
  unfold InH at a b
  rw [near_neg p q] at b
  simp only [] at b
  rw [fv_neg] at b
  grind
/-- Each point is in some cell. -/
theorem cell_some {l : List (Rat × Rat)} {s : Rat × Rat} (hs : InL l s) : ∀ ps : List (Rat × Rat), ps ≠ [] → ∃ p, p ∈ ps ∧ Reg (otherH ps p) l s := by
  have key : ∀ ps : List (Rat × Rat), ps ≠ [] → ∃ p, p ∈ ps ∧ ∀ q, q ∈ ps → dQ s p ≤ dQ s q := by
    intro ps
    induction ps with
    | nil => intro h; exact absurd rfl h
    | cons a t ih =>
      intro _
      by_cases ht : t = []
      · subst ht; exact ⟨a, by simp, by simp⟩
      · obtain ⟨p, hp, h⟩ := ih ht
        by_cases k : dQ s p ≤ dQ s a
        · exact ⟨p, by simp [hp], fun q hq => by rcases List.mem_cons.1 hq with rfl | hq; exact k; exact h q hq⟩
        · have k : dQ s a ≤ dQ s p := by grind
          exact ⟨a, by simp, fun q hq => by rcases List.mem_cons.1 hq with rfl | hq; exact Rat.le_refl; exact Rat.le_trans k (h q hq)⟩
  intro ps hn
  obtain ⟨p, hp, h⟩ := key ps hn
  exact ⟨p, hp, hs, other_in.2 h⟩
end Go.Proofs.Ytdfabocecpcmcaa
/- A cell of whole points has area. Over no program; written ahead of layer 8's code. -/
namespace Go.Proofs.Ytdfabocecpcmcaa
open Go.MagM
def ptQ (p : Int × Int) : Rat × Rat := ((p.1 : Rat), (p.2 : Rat))
theorem int_sq (d : Int) : 0 ≤ d * d * 2 + d := by
  by_cases h : 0 ≤ d
  · have := Int.mul_nonneg h h; omega
  · have := Int.mul_nonneg (show 0 ≤ -d by omega) (show 0 ≤ -d - 1 by omega)
    have e : -d * (-d - 1) = d * d + d := by grind
    have e2 : 0 ≤ d * d := by
      have := Int.mul_nonneg (show 0 ≤ -d by omega) (show 0 ≤ -d by omega)
      have e3 : -d * -d = d * d := by grind
      omega
    omega
theorem rat_sq (a b : Int) : 0 ≤ 2 * (((a : Rat) - b) * ((a : Rat) - b)) + ((a : Rat) - b) := by
  have h := int_sq (a - b)
  have e : (2 * (((a : Rat) - b) * ((a : Rat) - b)) + ((a : Rat) - b)) = (((a - b) * (a - b) * 2 + (a - b) : Int) : Rat) := by
    simp only [Rat.intCast_add, Rat.intCast_mul, Rat.intCast_sub]
    grind
  rw [e]
  exact Rat.intCast_nonneg.2 h
theorem sq_nonneg (a : Rat) : 0 ≤ a * a := by
  by_cases h : 0 ≤ a
  · exact Rat.mul_nonneg h h
  · have := Rat.mul_nonneg (show 0 ≤ -a by grind) (show 0 ≤ -a by grind); grind
theorem quarter_x (p q : Int × Int) : dQ ((ptQ p).1 + 1 / 4, (ptQ p).2) (ptQ p) ≤ dQ ((ptQ p).1 + 1 / 4, (ptQ p).2) (ptQ q) := by
  have h1 := rat_sq p.1 q.1
  have h2 := sq_nonneg ((p.2 : Rat) - q.2)
  unfold dQ ptQ; simp only []
  grind
theorem quarter_y (p q : Int × Int) : dQ ((ptQ p).1, (ptQ p).2 + 1 / 4) (ptQ p) ≤ dQ ((ptQ p).1, (ptQ p).2 + 1 / 4) (ptQ q) := by
  have h1 := rat_sq p.2 q.2
  have h2 := sq_nonneg ((p.1 : Rat) - q.1)
  unfold dQ ptQ; simp only []
  grind
theorem own_near (s q : Rat × Rat) : dQ s s ≤ dQ s q := by
  have h1 := sq_nonneg (s.1 - q.1)
  have h2 := sq_nonneg (s.2 - q.2)
  unfold dQ; grind
/-- A whole point that lies well within has a cell with area. -/
theorem cell_ne {ps : List (Int × Int)} {p : Int × Int} {l : List (Rat × Rat)} (hl : Conv0 l) (h0 : InL l (ptQ p)) (h1 : InL l ((ptQ p).1 + 1 / 4, (ptQ p).2)) (h2 : InL l ((ptQ p).1, (ptQ p).2 + 1 / 4)) : foldQ (otherH (ps.map ptQ) (ptQ p)) l ≠ [] := by
  refine (fold_some other_half hl).2 ⟨_, _, _, ?_, ⟨h0, ?_⟩, ⟨h1, ?_⟩, ⟨h2, ?_⟩⟩
  · unfold crossQ; simp only []
    intro e
    grind
  all_goals
    rw [other_in]
    intro q hq
    rw [List.mem_map] at hq
    obtain ⟨q, _, rfl⟩ := hq
  · exact own_near _ _
  · exact quarter_x p q
  · exact quarter_y p q
end Go.Proofs.Ytdfabocecpcmcaa
/- The square, and half-planes by a factor. Over no program; written ahead of layer 8's code. -/
namespace Go.Proofs.Ytdfabocecpcmcaa
open Go.MagM
def boxQ (n : Rat) : List (Rat × Rat) := [(-n, -n), (n, -n), (n, n), (-n, n)]
theorem box_conv {n : Rat} (h : 0 < n) : Conv (boxQ n) := by
  have h2 := Rat.mul_pos h h
  refine ⟨by simp [boxQ], fun i k hi hk h1 h3 => ?_⟩
  simp only [boxQ, List.length_cons, List.length_nil] at hi hk h3
  have ei : i = 0 ∨ i = 1 ∨ i = 2 ∨ i = 3 := by omega
  have ek : k = 0 ∨ k = 1 ∨ k = 2 ∨ k = 3 := by omega
  rcases ei with rfl | rfl | rfl | rfl <;> rcases ek with rfl | rfl | rfl | rfl <;> first | (exfalso; omega) | (simp [cor, boxQ, crossQ]; grind)
theorem box_in {n : Rat} (h : 0 < n) (s : Rat × Rat) : InL (boxQ n) s ↔ (-n ≤ s.1 ∧ s.1 ≤ n) ∧ (-n ≤ s.2 ∧ s.2 ≤ n) := by
  have key : ∀ u : Rat, 0 ≤ n * u → 0 ≤ u := by
    intro u k
    by_cases g : 0 ≤ u
    · exact g
    · have := Rat.mul_pos h (show 0 < -u by grind); grind
  have c0 : crossQ (cor (boxQ n) 0) (cor (boxQ n) 1) s = n * (2 * (s.2 + n)) := by simp [cor, boxQ, crossQ]; grind
  have c1 : crossQ (cor (boxQ n) 1) (cor (boxQ n) 2) s = n * (2 * (n - s.1)) := by simp [cor, boxQ, crossQ]; grind
  have c2 : crossQ (cor (boxQ n) 2) (cor (boxQ n) 3) s = n * (2 * (n - s.2)) := by simp [cor, boxQ, crossQ]; grind
  have c3 : crossQ (cor (boxQ n) 3) (cor (boxQ n) 4) s = n * (2 * (s.1 + n)) := by simp [cor, boxQ, crossQ]; grind
  constructor
  · rintro ⟨_, k⟩
    have k0 := k 0 (by simp [boxQ])
    have k1 := k 1 (by simp [boxQ])
    have k2 := k 2 (by simp [boxQ])
    have k3 := k 3 (by simp [boxQ])
    rw [c0] at k0; rw [c1] at k1; rw [c2] at k2; rw [c3] at k3
    have := key _ k0
    have := key _ k1
    have := key _ k2
    have := key _ k3
    grind
  · rintro ⟨⟨a1, a2⟩, b1, b2⟩
    refine ⟨by simp [boxQ], fun i hi => ?_⟩
    simp only [boxQ, List.length_cons, List.length_nil] at hi
    have ei : i = 0 ∨ i = 1 ∨ i = 2 ∨ i = 3 := by omega
    rcases ei with rfl | rfl | rfl | rfl
    · rw [c0]; exact Rat.mul_nonneg (Rat.le_of_lt h) (by grind)
    · rw [c1]; exact Rat.mul_nonneg (Rat.le_of_lt h) (by grind)
    · rw [c2]; exact Rat.mul_nonneg (Rat.le_of_lt h) (by grind)
    · rw [c3]; exact Rat.mul_nonneg (Rat.le_of_lt h) (by grind)
theorem box_area (n : Rat) : areaQ (boxQ n) = 8 * (n * n) := by
  unfold boxQ
  rw [area_dsum]
  simp only [List.cons_append, List.nil_append, dsum, det]
  grind
/-- Nearer, as the difference of two squared distances. -/
theorem near_eq (p q s : Rat × Rat) : fvQ (nearH p q).1 (nearH p q).2.1 (nearH p q).2.2 s = dQ s p - dQ s q := by
  unfold nearH fvQ dQ; simp only []; grind
/-- By a factor. -/
theorem fv_scale (k A B C : Rat) (s : Rat × Rat) : fvQ (k * A) (k * B) (k * C) s = k * fvQ A B C s := by unfold fvQ; grind
theorem sign_scale {k u : Rat} (hk : 0 < k) : (k * u ≤ 0 ↔ u ≤ 0) ∧ (k * u < 0 ↔ u < 0) := by
  constructor
  · constructor
    · intro h
      by_cases g : u ≤ 0
      · exact g
      · have := Rat.mul_pos hk (show 0 < u by grind); grind
    · intro h
      have := Rat.mul_nonneg (Rat.le_of_lt hk) (show 0 ≤ -u by grind); grind
  · constructor
    · intro h
      by_cases g : u < 0
      · exact g
      · have := Rat.mul_nonneg (Rat.le_of_lt hk) (show 0 ≤ u by grind); grind
    · intro h
      have := Rat.mul_pos hk (show 0 < -u by grind); grind
end Go.Proofs.Ytdfabocecpcmcaa
/- What is left of a polygon that is cut, as a list; how many corners it has; on which lines its sides lie. Over no program. -/
namespace Go.Proofs.Ytdfabocecpcmcaa
open Go.MagM
theorem tri_three {l : List (Rat × Rat)} (h : Tri l) (h3 : 3 ≤ l.length) : 0 < crossQ (cor l 0) (cor l 1) (cor l 2) := h.at (by omega) (by omega) (by omega)
theorem cor_mem {l : List (Rat × Rat)} {i : Nat} (h : 0 < l.length) : cor l i ∈ l := by
  have hi := Nat.mod_lt i h
  rw [← cor_mod, cor_get hi]
  exact List.getElem_mem hi
theorem cut_le {A B C : Rat} {l : List (Rat × Rat)} {p : Rat × Rat} (h : p ∈ cutQ A B C l) : fvQ A B C p ≤ 0 := by
  unfold cutQ at h
  obtain ⟨q, hq, rfl⟩ := List.mem_map.1 h
  exact (fv_pos_le (mem_cutT hq)).1
/-- If no corner lies strictly within, two corners are left at most. -/
theorem cut_few {A B C : Rat} (hAB : A ≠ 0 ∨ B ≠ 0) {l : List (Rat × Rat)} (hl : Conv l) (h : ¬ ∃ i, i < l.length ∧ fvQ A B C (cor l i) < 0) : (cutQ A B C l).length < 3 := by
  by_cases k : (cutQ A B C l).length < 3
  · exact k
  · exfalso
    have ht := tri_three (hl.tri.cut (A := A) (B := B) (C := C) hl.1) (by omega)
    have hz : ∀ p, p ∈ cutQ A B C l → fvQ A B C p = 0 := by
      intro p hp
      have h1 := cut_le hp
      unfold cutQ at hp
      obtain ⟨q, hq, rfl⟩ := List.mem_map.1 hp
      have P := mem_cutT hq
      by_cases h2 : q.2 = 0
      · obtain ⟨i, t⟩ := q
        simp only [] at h2
        subst h2
        rw [posQ_zero] at h1 ⊢
        have : ¬ fvQ A B C (cor l i) < 0 := fun k => h ⟨i, P.lt, k⟩
        grind
      · exact (fv_pos_le P).2 h2
    have g := fun i => hz (cor (cutQ A B C l) i) (cor_mem (by omega))
    rw [on_line hAB (g 0) (g 1) (g 2)] at ht
    exact absurd ht (by decide)
/-- What the program answers: what is kept, none if that is less than three. -/
def clipP (A B C : Rat) (l : List (Rat × Rat)) : List (Rat × Rat) := if (cutQ A B C l).length < 3 then [] else cutQ A B C l
theorem clipP_eq {A B C : Rat} (hAB : A ≠ 0 ∨ B ≠ 0) {l : List (Rat × Rat)} (hl : Conv0 l) : clipP A B C l = clipQ A B C l := by
  rcases hl with rfl | hl
  · rw [clip_nil]; unfold clipP; split
    · rfl
    · unfold cutQ cutT; simp
  · by_cases k : ∃ i, i < l.length ∧ fvQ A B C (cor l i) < 0
    · rw [clipQ_pos k]
      obtain ⟨i, hi, hf⟩ := k
      have := cut_three (A := A) (B := B) (C := C) hl.1 hi hf
      unfold clipP; rw [if_neg (by omega)]
    · rw [clipQ_neg k]
      unfold clipP; rw [if_pos (cut_few hAB hl k)]
theorem clip_conv0 {A B C : Rat} {l : List (Rat × Rat)} (hl : Conv0 l) : Conv0 (clipQ A B C l) := by
  rcases hl with rfl | hl
  · rw [clip_nil]; exact .inl rfl
  · by_cases h : clipQ A B C l = []
    · exact .inl h
    · exact .inr (clip_conv hl h)
/-- How many corners. -/
theorem filter_flat {α β : Type} (p : β → Bool) (f : α → List β) (h : ∀ a, ((f a).filter p).length ≤ 1) : ∀ l : List α, ((l.flatMap f).filter p).length ≤ l.length
  | [] => by simp
  | a :: t => by
    have := filter_flat p f h t
    have := h a
    rw [List.flatMap_cons, List.filter_append, List.length_append, List.length_cons]; omega
theorem filter_both {β : Type} (p : β → Bool) : ∀ l : List β, l.length = (l.filter p).length + (l.filter (fun x => !p x)).length
  | [] => rfl
  | a :: t => by
    have := filter_both p t
    cases h : p a <;> simp [h] <;> omega
theorem cut_len {A B C : Rat} (hAB : A ≠ 0 ∨ B ≠ 0) {l : List (Rat × Rat)} (hl : Tri l) (h3 : 3 ≤ l.length) : (cutQ A B C l).length ≤ l.length + 2 := by
  have h1 : ((cutQ A B C l).filter (fun p => decide (fvQ A B C p ≠ 0))).length ≤ l.length := by
    rw [cutQ_flat]
    have := filter_flat (fun p => decide (fvQ A B C p ≠ 0)) (fun i => cutAt A B C (cor l i) (cor l (i + 1))) (fun i => by
      unfold cutAt
      rw [List.filter_append, List.length_append]
      have a1 : ((if fvQ A B C (cor l i) ≤ 0 then [cor l i] else []).filter (fun p => decide (fvQ A B C p ≠ 0))).length ≤ 1 := by
        split
        · exact List.length_filter_le _ _
        · simp
      have a2 : ((if fvQ A B C (cor l i) * fvQ A B C (cor l (i + 1)) < 0 then [crossPt A B C (cor l i) (cor l (i + 1))] else []).filter (fun p => decide (fvQ A B C p ≠ 0))).length = 0 := by
        split
        · rename_i h; simp [crossPt_on h]
        · simp
      omega) (List.range l.length)
    rwa [List.length_range] at this
  have h2 : ((cutQ A B C l).filter (fun p => !decide (fvQ A B C p ≠ 0))).length ≤ 2 := by
    by_cases k : ((cutQ A B C l).filter (fun p => !decide (fvQ A B C p ≠ 0))).length ≤ 2
    · exact k
    · exfalso
      have ht := tri_three ((hl.cut (A := A) (B := B) (C := C) h3).sub (List.filter_sublist (p := fun p => !decide (fvQ A B C p ≠ 0)))) (by omega)
      have g := fun i => cor_mem (l := (cutQ A B C l).filter (fun p => !decide (fvQ A B C p ≠ 0))) (i := i) (by omega)
      have g2 : ∀ i, fvQ A B C (cor ((cutQ A B C l).filter (fun p => !decide (fvQ A B C p ≠ 0))) i) = 0 := fun i => by
        have := (List.mem_filter.1 (g i)).2
        simpa using this
      rw [on_line hAB (g2 0) (g2 1) (g2 2)] at ht
      exact absurd ht (by decide)
  have := filter_both (fun p => decide (fvQ A B C p ≠ 0)) (cutQ A B C l)
  omega
theorem clip_len {A B C : Rat} (hAB : A ≠ 0 ∨ B ≠ 0) {l : List (Rat × Rat)} (hl : Conv0 l) : (clipQ A B C l).length ≤ l.length + 2 := by
  rcases hl with rfl | hl
  · rw [clip_nil]; simp
  · by_cases k : ∃ i, i < l.length ∧ fvQ A B C (cor l i) < 0
    · rw [clipQ_pos k]; exact cut_len hAB hl.tri hl.1
    · rw [clipQ_neg k]; simp
/-- Each side lies on the line of one of these half-planes. -/
def OnH (h : Rat × Rat × Rat) (p : Rat × Rat) : Prop := fvQ h.1 h.2.1 h.2.2 p = 0
def Lined (S : Rat × Rat × Rat → Prop) (l : List (Rat × Rat)) : Prop := ∀ i, i < l.length → ∃ h, S h ∧ Half0 h ∧ OnH h (cor l i) ∧ OnH h (cor l (i + 1))
theorem on_way {h : Rat × Rat × Rat} {a b : Rat × Rat} {t : Rat} (ha : OnH h a) (hb : OnH h b) : OnH h (wayQ a b t) := by
  unfold OnH at *; rw [fv_way, ha, hb]; grind
theorem Lined.cut {S : Rat × Rat × Rat → Prop} {A B C : Rat} {l : List (Rat × Rat)} (hS : S (A, B, C)) (hAB : A ≠ 0 ∨ B ≠ 0) (hl : Lined S l) (hc : Conv l) : Lined S (cutQ A B C l) := by
  intro k hk
  have hk' : k < (cutT A B C l).length := by unfold cutQ at hk; rwa [List.length_map] at hk
  rw [cor_cut hk', cor_cut' hk']
  by_cases h1 : fvQ A B C (posQ l (cutT A B C l)[k]) < 0
  · obtain ⟨i, t, hi, _, e1, e2⟩ := next_side hc.1 hk' h1
    obtain ⟨h, a, b, c, d⟩ := hl i hi
    exact ⟨h, a, b, by rw [e1]; exact c, by rw [e2]; exact on_way c d⟩
  · by_cases h2 : fvQ A B C (posQ l (nxt A B C l k)) < 0
    · obtain ⟨i, t, hi, _, e1, e2⟩ := prev_side hc.1 hk' h2
      obtain ⟨h, a, b, c, d⟩ := hl i hi
      exact ⟨h, a, b, by rw [e1]; exact on_way c d, by rw [e2]; exact d⟩
    · have m1 := cut_le (A := A) (B := B) (C := C) (l := l) (p := posQ l (cutT A B C l)[k]) (by unfold cutQ; exact List.mem_map_of_mem (List.getElem_mem _))
      have m2 : fvQ A B C (posQ l (nxt A B C l k)) ≤ 0 := by
        rw [← cor_cut' hk']; exact cut_le (cor_mem (by omega))
      exact ⟨(A, B, C), hS, hAB, Rat.le_antisymm m1 (by grind), Rat.le_antisymm m2 (by grind)⟩
theorem Lined.nil (S : Rat × Rat × Rat → Prop) : Lined S [] := fun i hi => by simp at hi
theorem Lined.clip {S : Rat × Rat × Rat → Prop} {A B C : Rat} {l : List (Rat × Rat)} (hS : S (A, B, C)) (hAB : A ≠ 0 ∨ B ≠ 0) (hl : Lined S l) (hc : Conv0 l) : Lined S (clipQ A B C l) := by
  rcases hc with rfl | hc
  · rw [clip_nil]; exact Lined.nil S
  · by_cases k : ∃ i, i < l.length ∧ fvQ A B C (cor l i) < 0
    · rw [clipQ_pos k]; exact hl.cut hS hAB hc
    · rw [clipQ_neg k]; exact Lined.nil S
/-- A corner is where two of the lines meet. -/
theorem two_lines {S : Rat × Rat × Rat → Prop} {l : List (Rat × Rat)} (hl : Lined S l) (hc : Conv l) {i : Nat} (hi : i < l.length) :
    ∃ h k, S h ∧ S k ∧ OnH h (cor l i) ∧ OnH k (cor l i) ∧ h.1 * k.2.1 - k.1 * h.2.1 ≠ 0 := by
  obtain ⟨j, hj, hji⟩ : ∃ j, j < l.length ∧ (j + 1) % l.length = i := by
    by_cases h0 : i = 0
    · subst h0; exact ⟨l.length - 1, by omega, by rw [show l.length - 1 + 1 = l.length by omega, Nat.mod_self]⟩
    · exact ⟨i - 1, by omega, by rw [show i - 1 + 1 = i by omega, Nat.mod_eq_of_lt hi]⟩
  have ej : cor l (j + 1) = cor l i := by rw [← cor_mod, hji]
  obtain ⟨h, h1, h2, h3, h4⟩ := hl j hj
  obtain ⟨k, k1, k2, k3, k4⟩ := hl i hi
  rw [ej] at h4
  refine ⟨h, k, h1, k1, h4, k3, fun hd => ?_⟩
  have hx : 0 < crossQ (cor l i) (cor l (i + 1)) (cor l j) := by
    have n1 := mod_next hc.1 hi
    have n2 := mod_next hc.1 hj
    have := hc.1
    exact hc.2 i j hi hj (by omega) (by omega)
  generalize cor l i = p at *
  generalize cor l (i + 1) = q at *
  generalize cor l j = r at *
  obtain ⟨A, B, C⟩ := h
  obtain ⟨A', B', C'⟩ := k
  unfold OnH fvQ at *
  simp only [] at *
  have hz : crossQ p q r = 0 := by
    unfold crossQ
    -- the ways p - r, q - p are both upright on (A, B) and (A', B')
    have e1 : A * (r.1 - p.1) + B * (r.2 - p.2) = 0 := by grind
    have e2 : A' * (q.1 - p.1) + B' * (q.2 - p.2) = 0 := by grind
    generalize r.1 - p.1 = u at *
    generalize r.2 - p.2 = v at *
    generalize q.1 - p.1 = x at *
    generalize q.2 - p.2 = y at *
    rcases h2 with hA | hB
    · rcases k2 with hA' | hB'
      · have : A * A' * (x * v - y * u) = 0 := by grind
        rcases Rat.mul_eq_zero.1 this with z | z
        · rcases Rat.mul_eq_zero.1 z with z | z
          · exact absurd z hA
          · exact absurd z hA'
        · exact z
      · have : A * B' * (x * v - y * u) = 0 := by grind
        rcases Rat.mul_eq_zero.1 this with z | z
        · rcases Rat.mul_eq_zero.1 z with z | z
          · exact absurd z hA
          · exact absurd z hB'
        · exact z
    · rcases k2 with hA' | hB'
      · have : B * A' * (x * v - y * u) = 0 := by grind
        rcases Rat.mul_eq_zero.1 this with z | z
        · rcases Rat.mul_eq_zero.1 z with z | z
          · exact absurd z hB
          · exact absurd z hA'
        · exact z
      · have : B * B' * (x * v - y * u) = 0 := by grind
        rcases Rat.mul_eq_zero.1 this with z | z
        · rcases Rat.mul_eq_zero.1 z with z | z
          · exact absurd z hB
          · exact absurd z hB'
        · exact z
  rw [hz] at hx
  exact absurd hx (by decide)
end Go.Proofs.Ytdfabocecpcmcaa
/- How large the corners' numbers are: each is where two lines of small numbers meet. -/
namespace Go.MagM
/-- A right number of which both parts are small has few words. -/
theorem RF.short {w : World} {v : Value} {L K : Nat} {q : Rat} (h : RF w v L q) (hn : q.num.natAbs < B ^ K) (hd : q.den < B ^ K) : RF w v K q := by
  obtain ⟨m, ao, n, c, bo, k, d, h1, ⟨m', vm, N, h2, h3, h4, h5⟩, h6⟩ := h
  refine ⟨m, ao, n, c, bo, k, d, h1, ⟨m', vm, N, h2, h3.short ?_, h4, h5⟩, h6.short hd⟩
  have : q.num.natAbs = N := by rw [h4]; unfold sgn; cases m' <;> simp
  omega
/-- q times D is N: its parts are no greater. -/
theorem parts_le {q : Rat} {N D : Int} (hD : D ≠ 0) (h : q * (D : Rat) = (N : Rat)) : q.num.natAbs ≤ N.natAbs ∧ q.den ≤ D.natAbs := by
  have e : q = Rat.divInt N D := by
    have h2 : q = (N : Rat) / (D : Rat) := by
      have hD' : (D : Rat) ≠ 0 := fun e => hD (by exact_mod_cast e)
      rw [← h, Rat.div_def, Rat.mul_assoc, Rat.mul_inv_cancel _ hD', Rat.mul_one]
    rw [h2, Rat.divInt_eq_div]
  have k : q.num * D = N * (q.den : Int) := by
    have := (Rat.divInt_eq_divInt_iff (n₁ := q.num) (n₂ := N) (d₁ := (q.den : Int)) (d₂ := D) (by have := q.den_nz; omega) hD).1 (by rw [← e, Rat.num_divInt_den])
    exact this
  have kn := congrArg Int.natAbs k
  rw [Int.natAbs_mul, Int.natAbs_mul, Int.natAbs_natCast] at kn
  have hc := q.reduced
  have d1 : q.den ∣ D.natAbs := hc.symm.dvd_of_dvd_mul_left ⟨N.natAbs, by rw [kn, Nat.mul_comm]⟩
  have d2 : q.num.natAbs ∣ N.natAbs := hc.dvd_of_dvd_mul_right ⟨D.natAbs, kn.symm⟩
  refine ⟨?_, Nat.le_of_dvd (by omega) d1⟩
  by_cases hN : N = 0
  · subst hN
    rw [Int.natAbs_zero, Nat.zero_mul] at kn
    rcases Nat.mul_eq_zero.1 kn with h0 | h0
    · rw [h0]; exact Nat.zero_le _
    · exact absurd (Int.natAbs_eq_zero.1 h0) hD
  · exact Nat.le_of_dvd (by omega) d2
end Go.MagM
namespace Go.Proofs.Ytdfabocecpcmcaa
open Go.MagM
/-- Both parts have one word. -/
def Sml (q : Rat) : Prop := q.num.natAbs < B ∧ q.den < B
def SmlH (h : Rat × Rat × Rat) : Prop := Sml h.1 ∧ Sml h.2.1 ∧ Sml h.2.2
theorem num_den (q : Rat) : q * ((q.den : Int) : Rat) = (q.num : Rat) := by
  have h2 : ((q.den : Int) : Rat) ≠ 0 := fun e => q.den_nz (by exact_mod_cast e)
  have h1 : q = (q.num : Rat) / ((q.den : Int) : Rat) := by
    rw [← Rat.divInt_eq_div, Rat.num_divInt_den]
  have h4 := Rat.div_mul_cancel (a := (q.num : Rat)) h2
  rwa [← h1] at h4
/-- The same half-plane, by whole numbers. -/
theorem whole_half {A B' C : Rat} (hA : Sml A) (hB : Sml B') (hC : Sml C) : ∃ a b c d : Int, d ≠ 0 ∧ A * (d : Rat) = (a : Rat) ∧ B' * (d : Rat) = (b : Rat) ∧ C * (d : Rat) = (c : Rat) ∧ a.natAbs < B ^ 3 ∧ b.natAbs < B ^ 3 ∧ c.natAbs < B ^ 3 := by
  have p : ∀ x y z : Nat, x < B → y < B → z < B → x * y * z < B ^ 3 := by
    intro x y z hx hy hz
    have h1 : x * y ≤ B * B := Nat.mul_le_mul (by omega) (by omega)
    have hB0 : 0 < B := by omega
    calc x * y * z ≤ B * B * z := Nat.mul_le_mul_right _ h1
      _ < B * B * B := Nat.mul_lt_mul_of_pos_left hz (Nat.mul_pos hB0 hB0)
      _ = B ^ 3 := by rw [Nat.pow_succ, Nat.pow_succ, Nat.pow_one]
  refine ⟨A.num * (B'.den : Int) * (C.den : Int), B'.num * (A.den : Int) * (C.den : Int), C.num * (A.den : Int) * (B'.den : Int), (A.den : Int) * (B'.den : Int) * (C.den : Int), ?_, ?_, ?_, ?_, ?_, ?_, ?_⟩
  · have h1 := A.den_nz; have h2 := B'.den_nz; have h3 := C.den_nz
    exact Int.mul_ne_zero (Int.mul_ne_zero (by omega) (by omega)) (by omega)
  · have := num_den A
    rw [Rat.intCast_mul, Rat.intCast_mul, Rat.intCast_mul, Rat.intCast_mul, ← this]; grind
  · have := num_den B'
    rw [Rat.intCast_mul, Rat.intCast_mul, Rat.intCast_mul, Rat.intCast_mul, ← this]; grind
  · have := num_den C
    rw [Rat.intCast_mul, Rat.intCast_mul, Rat.intCast_mul, Rat.intCast_mul, ← this]; grind
  · rw [Int.natAbs_mul, Int.natAbs_mul, Int.natAbs_natCast, Int.natAbs_natCast]; exact p _ _ _ hA.1 hB.2 hC.2
  · rw [Int.natAbs_mul, Int.natAbs_mul, Int.natAbs_natCast, Int.natAbs_natCast]; exact p _ _ _ hB.1 hA.2 hC.2
  · rw [Int.natAbs_mul, Int.natAbs_mul, Int.natAbs_natCast, Int.natAbs_natCast]; exact p _ _ _ hC.1 hA.2 hB.2
theorem det_small {a b c d : Int} {M : Nat} (ha : a.natAbs < M) (hb : b.natAbs < M) (hc : c.natAbs < M) (hd : d.natAbs < M) : (a * b - c * d).natAbs ≤ 2 * (M * M) := by
  have h1 : (a * b).natAbs ≤ M * M := by rw [Int.natAbs_mul]; exact Nat.mul_le_mul (by omega) (by omega)
  have h2 : (c * d).natAbs ≤ M * M := by rw [Int.natAbs_mul]; exact Nat.mul_le_mul (by omega) (by omega)
  omega
theorem seven : 2 * (B ^ 3 * B ^ 3) < B ^ 7 := by
  have hB : 2 < B := by unfold B; omega
  have h : 0 < B ^ 6 := Nat.pow_pos (by omega)
  have e : B ^ 7 = B * B ^ 6 := by rw [Nat.pow_succ, Nat.mul_comm]
  rw [← Nat.pow_add, e]
  exact Nat.mul_lt_mul_of_pos_right hB h
theorem meet_small {A B1 C A' B' C' x y : Rat} (h : SmlH (A, B1, C)) (h' : SmlH (A', B', C')) (hd : A * B' - A' * B1 ≠ 0) (e1 : A * x + B1 * y - C = 0) (e2 : A' * x + B' * y - C' = 0) :
    (x.num.natAbs < B ^ 7 ∧ x.den < B ^ 7) ∧ (y.num.natAbs < B ^ 7 ∧ y.den < B ^ 7) := by
  obtain ⟨a, b, c, d, hd0, ha, hb, hc, sa, sb, sc⟩ := whole_half h.1 h.2.1 h.2.2
  obtain ⟨a', b', c', d', hd0', ha', hb', hc', sa', sb', sc'⟩ := whole_half h'.1 h'.2.1 h'.2.2
  simp only [] at ha hb hc ha' hb' hc'
  have hD : a * b' - a' * b ≠ 0 := by
    intro e
    have e3 : ((a * b' - a' * b : Int) : Rat) = ((0 : Int) : Rat) := by rw [e]
    rw [Rat.intCast_sub, Rat.intCast_mul, Rat.intCast_mul, ← ha, ← hb, ← ha', ← hb'] at e3
    have e4 : (d : Rat) * (d' : Rat) * (A * B' - A' * B1) = 0 := by
      have z : ((0 : Int) : Rat) = 0 := rfl
      rw [z] at e3; grind
    have n1 : (d : Rat) ≠ 0 := fun e => hd0 (by exact_mod_cast e)
    have n2 : (d' : Rat) ≠ 0 := fun e => hd0' (by exact_mod_cast e)
    rcases Rat.mul_eq_zero.1 e4 with z | z
    · rcases Rat.mul_eq_zero.1 z with z | z
      · exact n1 z
      · exact n2 z
    · exact hd z
  have kx : x * ((a * b' - a' * b : Int) : Rat) = ((c * b' - c' * b : Int) : Rat) := by
    rw [Rat.intCast_sub, Rat.intCast_mul, Rat.intCast_mul, Rat.intCast_sub, Rat.intCast_mul, Rat.intCast_mul, ← ha, ← hb, ← ha', ← hb', ← hc, ← hc']; grind
  have ky : y * ((a * b' - a' * b : Int) : Rat) = ((a * c' - a' * c : Int) : Rat) := by
    rw [Rat.intCast_sub, Rat.intCast_mul, Rat.intCast_mul, Rat.intCast_sub, Rat.intCast_mul, Rat.intCast_mul, ← ha, ← hb, ← ha', ← hb', ← hc, ← hc']; grind
  have s := seven
  have px := parts_le hD kx
  have py := parts_le hD ky
  have l1 := det_small sa sb' sa' sb
  have l2 := det_small sc sb' sc' sb
  have l3 := det_small sa sc' sa' sc
  omega
/-- A polygon that comes of small half-planes. -/
def Poly (l : List (Rat × Rat)) : Prop := Conv0 l ∧ Lined SmlH l
theorem Poly.small {l : List (Rat × Rat)} (h : Poly l) {i : Nat} {x y : Rat} (hi : l[i]? = some (x, y)) : (x.num.natAbs < B ^ 7 ∧ x.den < B ^ 7) ∧ (y.num.natAbs < B ^ 7 ∧ y.den < B ^ 7) := by
  obtain ⟨hlt, he⟩ := List.getElem?_eq_some_iff.1 hi
  rcases h.1 with rfl | hc
  · simp at hlt
  · obtain ⟨k, k', s, s', e1, e2, hd⟩ := two_lines h.2 hc hlt
    rw [cor_get hlt, he] at e1 e2
    exact meet_small s s' hd e1 e2
theorem Poly.clip {A B C : Rat} {l : List (Rat × Rat)} (h : Poly l) (hAB : A ≠ 0 ∨ B ≠ 0) (hs : SmlH (A, B, C)) : Poly (clipQ A B C l) := ⟨clip_conv0 h.1, h.2.clip hs hAB h.1⟩
theorem Poly.nil : Poly [] := ⟨.inl rfl, Lined.nil _⟩
theorem sml_int {z : Int} (h : z.natAbs < B) : Sml ((z : Int) : Rat) := ⟨by rw [Rat.num_intCast]; exact h, by rw [Rat.den_intCast]; unfold B; omega⟩
theorem cor_at {l : List (Rat × Rat)} {i : Nat} (h : i < l.length) : l[i]? = some (cor l i) := by rw [List.getElem?_eq_getElem h, cor_get h]
theorem box_poly {n : Int} (h0 : 0 < n) (h : n.natAbs < B) : Poly (boxQ (n : Rat)) := by
  have hn : (0 : Rat) < (n : Rat) := by exact_mod_cast h0
  have sn := sml_int h
  have sm : Sml (-(n : Rat)) := by
    have := sml_int (z := -n) (by omega)
    rwa [Rat.intCast_neg] at this
  have s0 : Sml 0 := sml_int (z := 0) (by simp; unfold B; omega)
  have s1 : Sml 1 := sml_int (z := 1) (by simp; unfold B; omega)
  have one : (1 : Rat) ≠ 0 := by decide
  refine ⟨.inr (box_conv hn), fun i hi => ?_⟩
  simp [boxQ] at hi
  obtain rfl | rfl | rfl | rfl : i = 0 ∨ i = 1 ∨ i = 2 ∨ i = 3 := by omega
  · exact ⟨(0, 1, -(n : Rat)), ⟨s0, s1, sm⟩, .inr one, by simp [OnH, fvQ, cor, boxQ]; grind, by simp [OnH, fvQ, cor, boxQ]; grind⟩
  · exact ⟨(1, 0, (n : Rat)), ⟨s1, s0, sn⟩, .inl one, by simp [OnH, fvQ, cor, boxQ]; grind, by simp [OnH, fvQ, cor, boxQ]; grind⟩
  · exact ⟨(0, 1, (n : Rat)), ⟨s0, s1, sn⟩, .inr one, by simp [OnH, fvQ, cor, boxQ]; grind, by simp [OnH, fvQ, cor, boxQ]; grind⟩
  · exact ⟨(1, 0, -(n : Rat)), ⟨s1, s0, sm⟩, .inl one, by simp [OnH, fvQ, cor, boxQ]; grind, by simp [OnH, fvQ, cor, boxQ]; grind⟩
end Go.Proofs.Ytdfabocecpcmcaa
/- Going round a convex polygon its sides begin to rise once. Over no program. -/
namespace Go.Proofs.Ytdfabocecpcmcaa
open Go.MagM
/-- A side that doesn't rise, then one that does. -/
def riseQ (l : List (Rat × Rat)) (i : Nat) : Prop := (cor l (i + 1)).2 ≤ (cor l i).2 ∧ (cor l (i + 1)).2 < (cor l (i + 2)).2
instance (l : List (Rat × Rat)) (i : Nat) : Decidable (riseQ l i) := by unfold riseQ; infer_instance
def cntR (l : List (Rat × Rat)) : Nat → Nat
  | 0 => 0
  | k + 1 => cntR l k + if riseQ l k then 1 else 0
theorem rise_low {l : List (Rat × Rat)} (hc : Conv l) {i k : Nat} (hi : i < l.length) (hk : k < l.length) (r : riseQ l i) (h1 : k ≠ i) (h2 : k ≠ (i + 1) % l.length) : (cor l (i + 1)).2 < (cor l k).2 := by
  have h3 := hc.1
  have n1 := mod_next h3 hi
  have hm := Nat.mod_lt (i + 1) (show 0 < l.length by omega)
  have n2 := mod_next h3 hm
  have hp := hc.2 i k hi hk h1 h2
  have e1 : cor l ((i + 1) % l.length) = cor l (i + 1) := cor_mod _ _
  have e2 : cor l ((i + 1) % l.length + 1) = cor l (i + 2) := by
    rw [← cor_mod l ((i + 1) % l.length + 1), ← cor_mod l (i + 2)]
    congr 1
    rw [Nat.mod_add_mod]
  have hq : 0 ≤ crossQ (cor l (i + 1)) (cor l (i + 2)) (cor l k) := by
    have := (corner_in hc hk).2 _ hm
    rwa [e1, e2] at this
  have hD : 0 < crossQ (cor l (i + 1)) (cor l (i + 2)) (cor l i) := by
    have := hc.2 _ i hm hi (by omega) (by omega)
    rwa [e1, e2] at this
  obtain ⟨r1, r2⟩ := r
  generalize cor l i = a at *
  generalize cor l (i + 1) = b at *
  generalize cor l (i + 2) = c at *
  generalize cor l k = p at *
  have e : crossQ b c a * (p.2 - b.2) = crossQ a b p * (c.2 - b.2) + crossQ b c p * (a.2 - b.2) := by unfold crossQ; grind
  have k1 := Rat.mul_pos hp (show 0 < c.2 - b.2 by grind)
  have k2 := Rat.mul_nonneg hq (show 0 ≤ a.2 - b.2 by grind)
  by_cases h : b.2 < p.2
  · exact h
  · have := Rat.mul_nonneg (Rat.le_of_lt hD) (show 0 ≤ b.2 - p.2 by grind)
    grind
theorem rise_once {l : List (Rat × Rat)} (hc : Conv l) {i j : Nat} (hi : i < l.length) (hj : j < l.length) (ri : riseQ l i) (rj : riseQ l j) : i = j := by
  by_cases hne : i = j
  · exact hne
  · exfalso
    have h3 := hc.1
    have n1 := mod_next h3 hi
    have n2 := mod_next h3 hj
    have mi := Nat.mod_lt (i + 1) (show 0 < l.length by omega)
    have mj := Nat.mod_lt (j + 1) (show 0 < l.length by omega)
    have ei : cor l ((i + 1) % l.length) = cor l (i + 1) := cor_mod _ _
    have ej : cor l ((j + 1) % l.length) = cor l (j + 1) := cor_mod _ _
    have ei2 : cor l ((i + 1) % l.length + 1) = cor l (i + 2) := by
      rw [← cor_mod l ((i + 1) % l.length + 1), ← cor_mod l (i + 2)]; congr 1; rw [Nat.mod_add_mod]
    have ej2 : cor l ((j + 1) % l.length + 1) = cor l (j + 2) := by
      rw [← cor_mod l ((j + 1) % l.length + 1), ← cor_mod l (j + 2)]; congr 1; rw [Nat.mod_add_mod]
    by_cases c1 : (j + 1) % l.length = i
    · obtain ⟨r1, r2⟩ := ri
      obtain ⟨s1, s2⟩ := rj
      rw [c1] at ej ej2
      rw [ej] at r1; rw [ej2] at r1
      exact absurd s2 (by grind)
    · by_cases c2 : (i + 1) % l.length = j
      · obtain ⟨r1, r2⟩ := ri
        obtain ⟨s1, s2⟩ := rj
        rw [c2] at ei ei2
        rw [ei] at s1; rw [ei2] at s1
        exact absurd r2 (by grind)
      · have a1 := rise_low hc hi mj ri c1 (by omega)
        have a2 := rise_low hc hj mi rj c2 (by omega)
        rw [ej] at a1; rw [ei] at a2
        grind
theorem cnt_one {l : List (Rat × Rat)} (hc : Conv l) : ∀ k, k ≤ l.length → cntR l k ≤ 1 ∧ (cntR l k = 1 → ∃ i, i < k ∧ riseQ l i)
  | 0, _ => ⟨by simp [cntR], fun h => by simp [cntR] at h⟩
  | k + 1, hk => by
    obtain ⟨h1, h2⟩ := cnt_one hc k (by omega)
    unfold cntR
    by_cases r : riseQ l k
    · rw [if_pos r]
      have : cntR l k = 0 := by
        by_cases z : cntR l k = 1
        · obtain ⟨i, hi, ri⟩ := h2 z
          have := rise_once hc (by omega) (by omega) ri r
          omega
        · omega
      exact ⟨by omega, fun _ => ⟨k, by omega, r⟩⟩
    · rw [if_neg r]
      exact ⟨by omega, fun h => by obtain ⟨i, hi, ri⟩ := h2 (by omega); exact ⟨i, by omega, ri⟩⟩
theorem cnt_le (l : List (Rat × Rat)) : ∀ k, cntR l k ≤ k
  | 0 => Nat.le_refl _
  | k + 1 => by have := cnt_le l k; unfold cntR; split <;> omega
end Go.Proofs.Ytdfabocecpcmcaa
