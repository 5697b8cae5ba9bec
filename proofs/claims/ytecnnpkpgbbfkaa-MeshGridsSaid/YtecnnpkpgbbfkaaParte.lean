/- The calls of num: what they answer. -/
import Derived.Test.YtecnnpkpgbbfkaaProg
import Derived.Test.YtecnnpkpgbbfkaaPartd
import Derived.Deep.DeepCutAuto
import Derived.Deep.CutBlock
import Derived.Deep.RegionHeld3
namespace Go.Proofs.Ytecnnpkpgbbfkaa
open Go.RowKit Go.MagM
/-- A call's answer is a right Num of at most L words, X. -/
def AnsNum (w w' : World) (e : Ending) (L : Nat) (X : Int) : Prop := ∃ m ao n c, e = .returned (.agg #[.bool m, .slice ao n c]) ∧ RNum w' (.agg #[.bool m, .slice ao n c]) L X ∧ Below w.heap.size w w'
theorem AnsNum.of {w w' : World} {e : Ending} {L L' : Nat} {X Y : Int} (h : AnsNum w w' e L X) (hL : L ≤ L') (he : X = Y) : AnsNum w w' e L' Y := by
  subst he; obtain ⟨m, ao, n, c, h1, h2, h3⟩ := h; exact ⟨m, ao, n, c, h1, h2.more hL, h3⟩
end Go.Proofs.Ytecnnpkpgbbfkaa
/- The calls of num, on: Of, Sign, Cmp. -/
namespace Go.Proofs.Ytecnnpkpgbbfkaa
open Go.RowKit Go.MagM
/-- Less, as much, more: -1, 0, 1. -/
def icmp (x y : Int) : Int := if x < y then -1 else if y < x then 1 else 0
theorem icmp_lt {x y : Int} (h : x < y) : icmp x y = -1 := by simp [icmp, h]
theorem icmp_gt {x y : Int} (h : y < x) : icmp x y = 1 := by have : ¬ x < y := by omega
                                                             simp [icmp, h, this]
theorem icmp_self (x : Int) : icmp x x = 0 := by simp [icmp]
end Go.Proofs.Ytecnnpkpgbbfkaa
/- The calls of num, on: Add, Sub, Mul of any Nums; Sum. -/
namespace Go.Proofs.Ytecnnpkpgbbfkaa
open Go.RowKit Go.MagM
/-- A slice of Nums: what its cells hold. -/
def Nums (w : World) (ao : Option Addr) (l : List (Nat × Int)) : Prop :=
  ∀ i L X, l[i]? = some (L, X) → ∃ b o m so sn sc, ao = some ⟨b, o, none⟩ ∧ w.cell? ⟨b, o + i * 2, none⟩ = some (.bool m) ∧ w.cell? ⟨b, o + i * 2 + 1, none⟩ = some (.slice so sn sc) ∧ Num w (.agg #[.bool m, .slice so sn sc]) L X
theorem Nums.below {w w' : World} {ao : Option Addr} {l : List (Nat × Int)} (h : Nums w ao l) (hb : Below w.heap.size w w') : Nums w' ao l := by
  intro i L X hi
  obtain ⟨b, o, m, so, sn, sc, h1, h2, h3, h4⟩ := h i L X hi
  have hlt := World.block_lt_of_cell? w _ h2
  exact ⟨b, o, m, so, sn, sc, h1, (hb.cell (p := ⟨b, o + i * 2, none⟩) hlt).trans h2, (hb.cell (p := ⟨b, o + i * 2 + 1, none⟩) hlt).trans h3, h4.below hb⟩
end Go.Proofs.Ytecnnpkpgbbfkaa
/- The calls of num, on: Div. -/
namespace Go.Proofs.Ytecnnpkpgbbfkaa
open Go.RowKit Go.MagM
/-- A call's answers are two right Nums. -/
def AnsNum2 (w w' : World) (e : Ending) (L : Nat) (X : Int) (L' : Nat) (Y : Int) : Prop :=
  ∃ m ao n c m' bo n' c', e = .returned (.tuple #[.agg #[.bool m, .slice ao n c], .agg #[.bool m', .slice bo n' c']]) ∧ RNum w' (.agg #[.bool m, .slice ao n c]) L X ∧ RNum w' (.agg #[.bool m', .slice bo n' c']) L' Y ∧ Below w.heap.size w w'
theorem AnsNum2.of {w w' : World} {e : Ending} {L L' M M' : Nat} {X X' Y Y' : Int} (h : AnsNum2 w w' e L X M Y) (hL : L ≤ L') (hM : M ≤ M') (hx : X = X') (hy : Y = Y') : AnsNum2 w w' e L' X' M' Y' := by
  subst hx; subst hy
  obtain ⟨m, ao, n, c, m', bo, n', c', h1, h2, h3, h4⟩ := h; exact ⟨m, ao, n, c, m', bo, n', c', h1, h2.more hL, h3.more hM, h4⟩
end Go.Proofs.Ytecnnpkpgbbfkaa
/- The helpers of layer 2's statements: fit, Right, short. -/
namespace Go.Proofs.Ytecnnpkpgbbfkaa
open Go.RowKit Go.MagM
/-- Block g, from 0 on, holds k Nums: these cells. -/
def Row (w : World) (g k : Nat) (mf : Nat → Bool) (af : Nat → Option Addr) (nf cf : Nat → Nat) : Prop :=
  ∀ i, i < k → w.cell? ⟨g, i * 2, none⟩ = some (.bool (mf i)) ∧ w.cell? ⟨g, i * 2 + 1, none⟩ = some (.slice (af i) (nf i) (cf i))
theorem Row.below {w w' : World} {g k : Nat} {mf : Nat → Bool} {af : Nat → Option Addr} {nf cf : Nat → Nat} (h : Row w g k mf af nf cf) (hb : Below w.heap.size w w') : Row w' g k mf af nf cf := by
  intro i hi
  obtain ⟨h1, h2⟩ := h i hi
  have hlt := World.block_lt_of_cell? w _ h1
  exact ⟨(hb.cell (p := ⟨g, i * 2, none⟩) hlt).trans h1, (hb.cell (p := ⟨g, i * 2 + 1, none⟩) hlt).trans h2⟩
end Go.Proofs.Ytecnnpkpgbbfkaa
/- A region that draws its order, walked by hand: the two takes. Over any program. -/
namespace Go.MagM
open Go
section
variable {P : Program} {ops : Array Oper} {Q : Exit → Act → World → Prop} {md : Region.Mode} {S : World → Prop}
/-- Operation i yields v. -/
theorem reg_take (i : Nat) (oi : Oper) (v : Value) {fuel : Nat} {listed : Array Bool} {a : Act} {w : World} (hi : ops[i]? = some oi)
    (hs : Region.noSelect ops = true) (hf : Region.free md ops listed i = true) (hr : (Region.ready md ops listed).contains i = true)
    (hQ : ∀ c a w, Q (.panic c) (a.put oi.dst v) w → Q (.panic c) a w) (hw : Region.wanted oi (yielded ops a.tmps) = true) (hy : ∀ w, S w → (execOp a.eval oi).run P w = .ok (.value v) w) (hS : S w)
    (h : wpAnyH P md ops Q S fuel (listed.setIfInBounds i true) (a.put oi.dst v) w) : wpAnyH P md ops Q S (fuel + 1) listed a w :=
  wpAnyH_take hi hs hf hr hQ (Or.inl ⟨hw, hy⟩) hS h
/-- Operation i is not wanted. -/
theorem reg_skip (i : Nat) (oi : Oper) {fuel : Nat} {listed : Array Bool} {a : Act} {w : World} (hi : ops[i]? = some oi)
    (hs : Region.noSelect ops = true) (hf : Region.free md ops listed i = true) (hr : (Region.ready md ops listed).contains i = true)
    (hQ : ∀ c a w, Q (.panic c) (a.put oi.dst undef) w → Q (.panic c) a w) (hw : Region.wanted oi (yielded ops a.tmps) = false) (hS : S w)
    (h : wpAnyH P md ops Q S fuel (listed.setIfInBounds i true) (a.put oi.dst undef) w) : wpAnyH P md ops Q S (fuel + 1) listed a w :=
  wpAnyH_take hi hs hf hr hQ (Or.inr ⟨hw, rfl⟩) hS h
/-- Operation i alone comes up next. -/
theorem reg_call (i : Nat) (o : Oper) {fuel : Nat} {listed : Array Bool} {a : Act} {w : World} (hr : Region.ready md ops listed = [i]) (ho : ops[i]? = some o)
    (h : ∀ K' : Act → World → Prop, Shut (∀ a w, S w → (S w → wpAnyH P md ops Q S fuel (listed.setIfInBounds i true) a w) → K' a w) → if Region.wanted o (yielded ops a.tmps) = true then Oper.wp P o a w K' Q else K' (a.put o.dst undef) w) :
    wpAnyH P md ops Q S (fuel + 1) listed a w :=
  wpAnyH_ready hr (by simp) (AllReadyH.cons ho h AllReadyH.nil)
/-- The rest of the region, and its frame, under one name each. -/
theorem reg_grab {fuel : Nat} {listed : Array Bool} {a : Act} {w : World}
    (h : ∀ (WW : Nat → Array Bool → Act → World → Prop) (b : Act), (∀ f l a w, WW f l a w = wpAnyH P md ops Q S f l a w) → b = a → WW fuel listed b w) : wpAnyH P md ops Q S fuel listed a w :=
  h (wpAnyH P md ops Q S) a (fun _ _ _ _ => rfl) rfl
/-- One comes up, or another one. -/
theorem reg_all1 (i : Nat) (o : Oper) {fuel : Nat} {listed : Array Bool} {a : Act} {w : World} (hr : Region.ready md ops listed = [i]) (ho : ops[i]? = some o)
    (h : ∀ K' : Act → World → Prop, Shut (∀ a w, S w → (S w → wpAnyH P md ops Q S fuel (listed.setIfInBounds i true) a w) → K' a w) → if Region.wanted o (yielded ops a.tmps) = true then Oper.wp P o a w K' Q else K' (a.put o.dst undef) w) :
    wpAnyH P md ops Q S (fuel + 1) listed a w := reg_call i o hr ho h
theorem reg_all2 (i j : Nat) (o u : Oper) {fuel : Nat} {listed : Array Bool} {a : Act} {w : World} (hr : Region.ready md ops listed = [i, j]) (ho : ops[i]? = some o) (hu : ops[j]? = some u)
    (h : ∀ K' : Act → World → Prop, Shut (∀ a w, S w → (S w → wpAnyH P md ops Q S fuel (listed.setIfInBounds i true) a w) → K' a w) → if Region.wanted o (yielded ops a.tmps) = true then Oper.wp P o a w K' Q else K' (a.put o.dst undef) w)
    (k : ∀ K' : Act → World → Prop, Shut (∀ a w, S w → (S w → wpAnyH P md ops Q S fuel (listed.setIfInBounds j true) a w) → K' a w) → if Region.wanted u (yielded ops a.tmps) = true then Oper.wp P u a w K' Q else K' (a.put u.dst undef) w) :
    wpAnyH P md ops Q S (fuel + 1) listed a w :=
  wpAnyH_ready hr (by simp) (AllReadyH.cons ho h (AllReadyH.cons hu k AllReadyH.nil))
end
end Go.MagM
