/- Decimal digits in memory; the document's own Add: what it answers. -/
import Derived.Test.YtbfdianmbpfjmaaHelp
import Derived.Test.YtbfdianmbpfjmaaTen
namespace Go.Proofs.Ytbfdianmbpfjmaa
open Go.RowKit
/-- The slice at ao reads as the digits f 0 .. f (n - 1). -/
def DReads (w : World) (ao : Option Addr) (n : Nat) (f : Nat → Nat) : Prop :=
  ∀ i, i < n → ∃ b o, ao = some ⟨b, o, none⟩ ∧ w.cell? ⟨b, o + i, none⟩ = some (.int .i64 ((f i : Nat) : Int)) ∧ f i < MagT.B
theorem DReads.less {w : World} {ao : Option Addr} {n m : Nat} {f : Nat → Nat} (h : DReads w ao n f) (hm : m ≤ n) : DReads w ao m f := fun i hi => h i (by omega)
theorem DReads.lt {w : World} {ao : Option Addr} {n : Nat} {f : Nat → Nat} (h : DReads w ao n f) : ∀ i, i < n → f i < MagT.B := fun i hi => by obtain ⟨_, _, _, _, h3⟩ := h i hi; exact h3
theorem DReads.below {m : Nat} {w w' : World} {bo : Option Addr} {h : Nat → Nat} (hr : DReads w bo m h) (hb : Below w.heap.size w w') : DReads w' bo m h := by
  intro i hi
  obtain ⟨b', o', e, hc, hl⟩ := hr i hi
  exact ⟨b', o', e, by rw [hb.cell (p := ⟨b', o' + i, none⟩) (World.block_lt_of_cell? w _ hc)]; exact hc, hl⟩
/-- A slice of decimal digits, right, at most L of them, that count N. -/
def Dec (w : World) (v : Value) (L N : Nat) : Prop := ∃ ao n c f, v = .slice ao n c ∧ n ≤ c ∧ n ≤ L ∧ DReads w ao n f ∧ MagT.V f n = N ∧ MagT.Right f n
theorem Dec.below {w w' : World} {v : Value} {L N : Nat} (h : Dec w v L N) (hb : Below w.heap.size w w') : Dec w' v L N := by
  obtain ⟨ao, n, c, f, h1, h2, h3, h4, h5⟩ := h; exact ⟨ao, n, c, f, h1, h2, h3, h4.below hb, h5⟩
theorem Dec.more {w : World} {v : Value} {L L' N : Nat} (h : Dec w v L N) (hL : L ≤ L') : Dec w v L' N := by
  obtain ⟨ao, n, c, f, h1, h2, h3, h4, h5⟩ := h; exact ⟨ao, n, c, f, h1, h2, by omega, h4, h5⟩
theorem Dec.short {w : World} {v : Value} {L N K : Nat} (h : Dec w v L N) (hN : N < MagT.B ^ K) : Dec w v K N := by
  obtain ⟨ao, n, c, f, h1, h2, h3, h4, h5, h6⟩ := h
  exact ⟨ao, n, c, f, h1, h2, MagT.len_le_of_lt h6 (by rw [h5]; exact hN), h4, h5, h6⟩
theorem Dec.of_trim {w : World} {ao : Option Addr} {n c : Nat} {f : Nat → Nat} (hr : DReads w ao n f) (hc : n ≤ c) : Dec w (.slice ao (MagT.tlen f n) c) n (MagT.V f n) :=
  ⟨ao, MagT.tlen f n, c, f, rfl, by have := MagT.tlen_le f n; omega, MagT.tlen_le f n, hr.less (MagT.tlen_le f n), MagT.tlen_V f n, MagT.tlen_right f n⟩
theorem info_int : (Try.prog.info? 3).map (fun i => (i.zero, i.size, i.bytes)) = some (some (.int .i64 0), 1, 8) := by kernel_rfl
theorem under_ints : Try.prog.underlying 28 = some (.slice 3) := by kernel_rfl
set_option maxHeartbeats 400000 in
theorem dtrim_any (ao : Option Addr) (n c : Nat) (w : World) (hn : n ≤ 9000000000) (f : Nat → Nat) (hnc : n ≤ c) (hc : DReads w ao n f) :
    Calls Try.prog 47 #[.slice ao n c] w fun e w' => e = .returned (.slice ao (MagT.tlen f n) c) ∧ w = w' := by
  go_enter Try.func47, Try.ntmps47
  go_wp2
  go_loop [3] (fun i => ∃ k : Nat, k ≤ n ∧ i = .int .i64 k ∧ MagT.tlen f n = MagT.tlen f k) (fun i => (intOf i).toNat)
  case atStart => exact ⟨n, Nat.le_refl _, rfl, rfl⟩
  case round =>
    obtain ⟨k, hk, rfl, hr⟩ := hrel
    have HR := Lib.hid hr; clear hr
    cases k with
    | zero =>
      clear hc
      go_wp2
      go_ret
      exact ⟨by rw [HR.out, MagT.tlen]; rfl, rfl⟩
    | succ k =>
      obtain ⟨b, o, rfl, hcell, _⟩ := hc k (by omega)
      clear hc
      by_cases h0 : f k = 0
      · have H0 := Lib.hid h0; rw [h0] at hcell
        clear h0
        go_wp2
        exact ⟨⟨k, by omega, rfl, by rw [HR.out, MagT.tlen, if_pos H0.out]⟩, by simp [intOf]⟩
      · have h0' : (((f k : Nat) : Int) == 0) = false := by simp only [beq_eq_false_iff_ne]; omega
        obtain ⟨x, hx⟩ : ∃ x, x = f k := ⟨_, rfl⟩
        rw [← hx] at hcell h0'
        have HX := Lib.hid hx; have H0 := Lib.hid h0; clear hx h0
        go_wp2
        go_ret
        exact ⟨by rw [HR.out, MagT.tlen, if_neg H0.out]; rfl, rfl⟩
/-- The digits that have been gathered. -/
def digs (o : Nat → Nat) (k : Nat) : List Value := (List.range k).map fun i => .int .i64 ((o i : Nat) : Int)
theorem digs_succ (o : Nat → Nat) (k : Nat) : digs o (k + 1) = digs o k ++ [.int .i64 ((o k : Nat) : Int)] := by simp [digs, List.range_succ]
theorem digs_congr {o o' : Nat → Nat} {k : Nat} (h : ∀ i, i < k → o i = o' i) : digs o k = digs o' k := by
  unfold digs; apply List.map_congr_left; intro i hi; rw [h i (by simpa using hi)]
theorem digs_at (o : Nat → Nat) (k i : Nat) (h : i < k) : (digs o k)[i]? = some (.int .i64 ((o i : Nat) : Int)) := by simp [digs, List.getElem?_map, List.getElem?_range h]
/-- What is owned reads as digits. -/
theorem DReads.owned {w : World} {base k : Nat} {v : Value} {o : Nat → Nat} (h : w.ownsRow base 3 1 v k (digs o k)) (ho : ∀ i, i < k → o i < MagT.B) : ∃ ao c, v = .slice ao k c ∧ k ≤ c ∧ DReads w ao k o := by
  have h0 := h
  rcases h.2 with ⟨rfl, rfl⟩ | ⟨g, cap, cur, rfl, _, _, hn, _⟩
  · exact ⟨none, 0, rfl, Nat.le_refl _, fun i hi => by omega⟩
  · refine ⟨_, cap, rfl, hn, fun i hi => ⟨g, 0, rfl, ?_, ho i hi⟩⟩
    have := h0.cellAt i (by omega)
    rw [digs_at o k i hi] at this
    rw [Nat.zero_add]; exact this
end Go.Proofs.Ytbfdianmbpfjmaa
