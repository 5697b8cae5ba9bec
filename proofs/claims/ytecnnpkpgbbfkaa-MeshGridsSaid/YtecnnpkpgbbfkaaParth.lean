/- The calls of frac, on: Of, Whole, Make, Sign, Cmp, Same, Neg, Add, Sub, Mul, Div. -/
import Derived.Test.YtecnnpkpgbbfkaaParte
import Derived.Test.YtecnnpkpgbbfkaaPartg
import Derived.Deep.LoopGhost
namespace Go.Proofs.Ytecnnpkpgbbfkaa
open Go.RowKit Go.MagM
theorem RF.whole {w : World} {m : Bool} {ao bo : Option Addr} {n c k d L M : Nat} {X : Int} (h1 : RNum w (.agg #[.bool m, .slice ao n c]) L X) (h2 : RMag w (.slice bo k d) M 1) (hM : M ≤ L) :
    RF w (.agg #[.bool m, .slice ao n c, .slice bo k d]) L (X : Rat) := by
  have h := low_one h1 (h2.more hM)
  rw [mkRat_one_int] at h; exact h
end Go.Proofs.Ytecnnpkpgbbfkaa
/- The calls of frac, on: Neg, Add, Sub, Mul, Make, Div. -/
namespace Go.Proofs.Ytecnnpkpgbbfkaa
open Go.RowKit Go.MagM
/-- A call's answer is a right Frac, and a bool. -/
def AnsFt (w w' : World) (e : Ending) (b : Bool) (L : Nat) (q : Rat) : Prop := ∃ m ao n c bo k d, e = .returned (.tuple #[.agg #[.bool m, .slice ao n c, .slice bo k d], .bool b]) ∧ RF w' (.agg #[.bool m, .slice ao n c, .slice bo k d]) L q ∧ Below w.heap.size w w'
theorem AnsFt.of {w w' : World} {e : Ending} {b : Bool} {L L' : Nat} {p q : Rat} (h : AnsFt w w' e b L p) (hL : L ≤ L') (he : p = q) : AnsFt w w' e b L' q := by
  subst he; obtain ⟨m, ao, n, c, bo, k, d, h1, h2, h3⟩ := h; exact ⟨m, ao, n, c, bo, k, d, h1, h2.more hL, h3⟩
end Go.Proofs.Ytecnnpkpgbbfkaa
/- The calls of frac, on: parts, odd, Floor, Round. -/
namespace Go.Proofs.Ytecnnpkpgbbfkaa
open Go.RowKit Go.MagM
end Go.Proofs.Ytecnnpkpgbbfkaa
namespace Go.MagM
open Go.RowKit
theorem RNum.low {w : World} {m : Bool} {ao : Option Addr} {n c L : Nat} {X : Int} (h : RNum w (.agg #[.bool m, .slice ao (n + 1) c]) L X) :
  ∃ b o x, ao = some ⟨b, o, none⟩ ∧ w.cell? ⟨b, o, none⟩ = some (.int .u64 x) ∧ bits .and .u64 x 1 = X % 2 := by
 obtain ⟨N, h1, rfl, _⟩ := h.part
 obtain ⟨ao', n', c', f, e, _, _, h4, h5, _⟩ := h1
 simp at e
 obtain ⟨rfl, rfl, rfl⟩ := e
 obtain ⟨b, o, h6, h7, h8⟩ := h4 0 (by omega)
 refine ⟨b, o, _, h6, h7, ?_⟩
 have h1 := V_low f 0 n
 simp only [Nat.zero_add] at h1
 rw [h1] at h5
 have h3 := bits_and_u64_nat (f 0) 1 (by unfold B at h8; omega) (by omega)
 have h9 : f 0 &&& 1 = f 0 % 2 := Nat.and_two_pow_sub_one_eq_mod (f 0) 1
 have h10 : f 0 % 2 = N % 2 := by unfold B at h5; omega
 rw [h9, h10] at h3
 rw [show (1 : Int) = ((1 : Nat) : Int) from rfl, h3]
 cases m <;> simp only [sgn, if_true, if_false, Bool.false_eq_true] <;> omega
theorem RNum.nil {w : World} {m : Bool} {ao : Option Addr} {c L : Nat} {X : Int} (h : RNum w (.agg #[.bool m, .slice ao 0 c]) L X) : X = 0 := by
 obtain ⟨N, h1, rfl, _⟩ := h.part
 obtain ⟨ao', n', c', f, e, _, _, h4, h5, _⟩ := h1
 simp at e
 obtain ⟨rfl, rfl, rfl⟩ := e
 rw [← h5]
 cases m <;> rfl
end Go.MagM
namespace Go.Proofs.Ytecnnpkpgbbfkaa
open Go.RowKit Go.MagM
end Go.Proofs.Ytecnnpkpgbbfkaa
/- The calls of frac, on: Round, Sum. -/
namespace Go.MagM
open Go.RowKit
/-- The slice at ao reads as Fracs. -/
def Fracs (w : World) (ao : Option Addr) (l : List (Nat × Int × Nat)) : Prop :=
 ∀ i L X D, l[i]? = some (L, X, D) → ∃ b o m so sn sc tp tn tc, ao = some ⟨b, o, none⟩ ∧ w.cell? ⟨b, o + i * 3, none⟩ = some (.bool m) ∧ w.cell? ⟨b, o + i * 3 + 1, none⟩ = some (.slice so sn sc) ∧ w.cell? ⟨b, o + i * 3 + 2, none⟩ = some (.slice tp tn tc) ∧
  FD w (.agg #[.bool m, .slice so sn sc, .slice tp tn tc]) L X D
theorem Fracs.below {w w' : World} {ao : Option Addr} {l : List (Nat × Int × Nat)} (h : Fracs w ao l) (hb : Below w.heap.size w w') : Fracs w' ao l := by
 intro i L X D hi
 obtain ⟨b, o, m, so, sn, sc, tp, tn, tc, h1, h2, h3, h4, h5⟩ := h i L X D hi
 have hlt := World.block_lt_of_cell? w _ h2
 exact ⟨b, o, m, so, sn, sc, tp, tn, tc, h1, (hb.cell (p := ⟨b, o + i * 3, none⟩) hlt).trans h2, (hb.cell (p := ⟨b, o + i * 3 + 1, none⟩) hlt).trans h3, (hb.cell (p := ⟨b, o + i * 3 + 2, none⟩) hlt).trans h4, h5.below hb⟩
theorem Fracs.drew {w : World} {ao : Option Addr} {l : List (Nat × Int × Nat)} (h : Fracs w ao l) : Fracs w.drew ao l := h
end Go.MagM
namespace Go.Proofs.Ytecnnpkpgbbfkaa
open Go.RowKit Go.MagM
end Go.Proofs.Ytecnnpkpgbbfkaa
