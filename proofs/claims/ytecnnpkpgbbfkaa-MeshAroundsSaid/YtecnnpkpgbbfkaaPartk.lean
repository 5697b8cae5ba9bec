/- What is ready, and what is not: for the invariant of a region (RegI). Over any program. -/
import Derived.Test.YtecnnpkpgbbfkaaPartj
import Derived.StillTail
import Derived.Test.YtecnnpkpgbbfkaaPartd
import Derived.Deep.DeepCutAuto
import Derived.Deep.CutBlock
import Derived.Test.YtecnnpkpgbbfkaaPartf
namespace Go.MagM
open Go
section
variable {ops : Array Oper} {md : Region.Mode} {l : Array Bool}
theorem ready_of (i : Nat) (o : Oper) (ho : ops[i]? = some o) (h0 : l.getD i true = false) (h : (o.after.all fun e => !Region.binds md e || l.getD e.on false) = true) : Region.ready md ops l ≠ [] := by
  refine List.ne_nil_of_mem (a := i) (mem_ready.2 ⟨h0, o, ho, fun e he hb => ?_⟩)
  have := Array.all_eq_true_iff_forall_mem.1 h e he
  simpa [hb] using this
theorem ready_lt {i : Nat} (h : i ∈ Region.ready md ops l) : i < ops.size := by
  obtain ⟨_, o, ho, _⟩ := mem_ready.1 h
  exact (Array.getElem?_eq_some_iff.1 ho).1
theorem ready_off {i : Nat} (h : i ∈ Region.ready md ops l) : l.getD i true = false := (mem_ready.1 h).1
theorem ready_dep {i d : Nat} (h : i ∈ Region.ready md ops l) (hw : Region.waitsFor md ops i d = true) : l.getD d false = true := by
  obtain ⟨_, o, ho, hall⟩ := mem_ready.1 h
  obtain ⟨o', ho', e, he, hb, rfl⟩ := Region.waitsFor_spec hw
  rw [ho] at ho'
  cases ho'
  exact hall e he hb
end
end Go.MagM
/- The statements' own helpers: short, same, fit. -/
namespace Go.Proofs.Ytecnnpkpgbbfkaa
open Go.RowKit Go.MagM
theorem RMag.zero {w : World} {v : Value} {L : Nat} (h : RMag w v L 0) : ∃ ao c, v = .slice ao 0 c := by
  obtain ⟨ao, n, c, f, rfl, h2, h3, h4, h5, h6⟩ := h
  cases n with
  | zero => exact ⟨ao, c, rfl⟩
  | succ k =>
    exfalso
    have := h6.ge
    have := Bp k
    omega
end Go.Proofs.Ytecnnpkpgbbfkaa
/- Plain mathematics of decimal digits, the lowest first. No program. -/
namespace Go.MagT
/-- Ten. -/
def B : Nat := 10
theorem B_pos : 0 < B := by unfold B; omega
theorem B_gt1 : 1 < B := by unfold B; omega
theorem B_eq : B = 10 := rfl
theorem Bp (n : Nat) : 0 < B ^ n := Nat.pow_pos B_pos
/-- What the first k words count. -/
def V (f : Nat → Nat) : Nat → Nat
  | 0 => 0
  | k + 1 => V f k + f k * B ^ k
theorem V_succ (f : Nat → Nat) (k : Nat) : V f (k + 1) = V f k + f k * B ^ k := rfl
theorem V_congr {f g : Nat → Nat} : ∀ {n : Nat}, (∀ i, i < n → f i = g i) → V f n = V g n
  | 0, _ => rfl
  | n + 1, h => by rw [V_succ, V_succ, V_congr (fun i hi => h i (by omega)), h n (by omega)]
theorem V_lt {f : Nat → Nat} : ∀ {n : Nat}, (∀ i, i < n → f i < B) → V f n < B ^ n
  | 0, _ => by simp [V]
  | n + 1, h => by
    have h1 := V_lt (n := n) (fun i hi => h i (by omega))
    have h2 : f n + 1 ≤ B := h n (by omega)
    have h3 := Nat.mul_le_mul_right (B ^ n) h2
    rw [V_succ, Nat.pow_succ, Nat.mul_comm (B ^ n) B]
    rw [Nat.add_mul] at h3
    omega
theorem V_split (f : Nat → Nat) (a : Nat) : ∀ b : Nat, V f (a + b) = V f a + B ^ a * V (fun i => f (a + i)) b
  | 0 => by simp [V]
  | b + 1 => by
    rw [← Nat.add_assoc, V_succ, V_split f a b, V_succ, Nat.pow_add, Nat.mul_add]
    have : f (a + b) * (B ^ a * B ^ b) = B ^ a * (f (a + b) * B ^ b) := by rw [Nat.mul_left_comm]
    omega
theorem V_one (f : Nat → Nat) : V f 1 = f 0 := by simp [V]
theorem V_none {f : Nat → Nat} : ∀ {n : Nat}, (∀ i, i < n → f i = 0) → V f n = 0
  | 0, _ => rfl
  | n + 1, h => by rw [V_succ, V_none (fun i hi => h i (by omega)), h n (by omega)]; simp
/-- The word k turned. -/
def upd (f : Nat → Nat) (k x : Nat) : Nat → Nat := fun i => if i = k then x else f i
theorem upd_same (f : Nat → Nat) (k x : Nat) : upd f k x k = x := by simp [upd]
theorem upd_other (f : Nat → Nat) (k x : Nat) {i : Nat} (h : i ≠ k) : upd f k x i = f i := by simp [upd, h]
/-- Without a 0 at the end. -/
def Right (f : Nat → Nat) (n : Nat) : Prop := ∀ k, n = k + 1 → f k ≠ 0
theorem Right.ge {f : Nat → Nat} {k : Nat} (h : Right f (k + 1)) : B ^ k ≤ V f (k + 1) := by
  have h1 : 1 ≤ f k := by have := h k rfl; omega
  have h2 := Nat.mul_le_mul_right (B ^ k) h1
  rw [V_succ]; omega
theorem len_le_of_lt {f : Nat → Nat} {n L : Nat} (rf : Right f n) (h : V f n < B ^ L) : n ≤ L := by
  cases n with
  | zero => omega
  | succ k =>
    have h1 := rf.ge
    have h2 : B ^ k < B ^ L := by omega
    have := (Nat.pow_lt_pow_iff_right B_gt1).1 h2
    omega
theorem mod_lt (x : Nat) : x % B < B := Nat.mod_lt _ B_pos
end Go.MagT
/- Decimal digits in memory; the document's own Add: what it answers. -/
namespace Go.Proofs.Ytecnnpkpgbbfkaa
open Go.RowKit
/-- The slice at ao reads as the digits f 0 .. f (n - 1). -/
def DReads (w : World) (ao : Option Addr) (n : Nat) (f : Nat → Nat) : Prop :=
  ∀ i, i < n → ∃ b o, ao = some ⟨b, o, none⟩ ∧ w.cell? ⟨b, o + i, none⟩ = some (.int .i64 ((f i : Nat) : Int)) ∧ f i < MagT.B
theorem DReads.less {w : World} {ao : Option Addr} {n m : Nat} {f : Nat → Nat} (h : DReads w ao n f) (hm : m ≤ n) : DReads w ao m f := fun i hi => h i (by omega)
theorem DReads.lt {w : World} {ao : Option Addr} {n : Nat} {f : Nat → Nat} (h : DReads w ao n f) : ∀ i, i < n → f i < MagT.B := fun i hi => by obtain ⟨_, _, _, _, h3⟩ := h i hi; exact h3
theorem DReads.below {m : Nat} {w w' : World} {bo : Option Addr} {h : Nat → Nat} (hr : DReads w bo m h) (hb : Below w.heap.size w w') : DReads w' bo m h := by
  intro i hi
  obtain ⟨b', o', e, hc, hl⟩ := hr i hi
  exact ⟨b', o', e, by rw [hb.cell (p := ⟨b', o' + i, none⟩) (World.block_lt_of_cell? w _ hc)]; exact hc, hl⟩
/-- A slice of decimal digits, right, at most L of them, that count N. -/
def Dec (w : World) (v : Value) (L N : Nat) : Prop := ∃ ao n c f, v = .slice ao n c ∧ n ≤ c ∧ n ≤ L ∧ DReads w ao n f ∧ MagT.V f n = N ∧ MagT.Right f n
theorem Dec.below {w w' : World} {v : Value} {L N : Nat} (h : Dec w v L N) (hb : Below w.heap.size w w') : Dec w' v L N := by
  obtain ⟨ao, n, c, f, h1, h2, h3, h4, h5⟩ := h; exact ⟨ao, n, c, f, h1, h2, h3, h4.below hb, h5⟩
theorem Dec.more {w : World} {v : Value} {L L' N : Nat} (h : Dec w v L N) (hL : L ≤ L') : Dec w v L' N := by
  obtain ⟨ao, n, c, f, h1, h2, h3, h4, h5⟩ := h; exact ⟨ao, n, c, f, h1, h2, by omega, h4, h5⟩
theorem Dec.short {w : World} {v : Value} {L N K : Nat} (h : Dec w v L N) (hN : N < MagT.B ^ K) : Dec w v K N := by
  obtain ⟨ao, n, c, f, h1, h2, h3, h4, h5, h6⟩ := h
  exact ⟨ao, n, c, f, h1, h2, MagT.len_le_of_lt h6 (by rw [h5]; exact hN), h4, h5, h6⟩
end Go.Proofs.Ytecnnpkpgbbfkaa
/- Rows of Spots that grow; what is appended from nothing; a slice that is cut. Over any program, and some over none. -/
namespace Go.MagM
open Go.RowKit
/-- Cells that are Spots, six each. -/
def Sr (w : World) (L : Nat) (xs : List Value) (l : List (Rat × Rat)) : Prop :=
  (∀ u ∈ xs, u.oneCell' = true) ∧ (∀ u ∈ xs, NoWord u) ∧ xs.length = l.length * 6 ∧
  ∀ i x y, l[i]? = some (x, y) → ∃ m so sn sc tp tn tc m' so' sn' sc' tp' tn' tc', xs[i * 6]? = some (.bool m) ∧ xs[i * 6 + 1]? = some (.slice so sn sc) ∧ xs[i * 6 + 2]? = some (.slice tp tn tc) ∧
    xs[i * 6 + 3]? = some (.bool m') ∧ xs[i * 6 + 4]? = some (.slice so' sn' sc') ∧ xs[i * 6 + 5]? = some (.slice tp' tn' tc') ∧ FQ w (.agg #[.bool m, .slice so sn sc, .slice tp tn tc]) L x ∧ FQ w (.agg #[.bool m', .slice so' sn' sc', .slice tp' tn' tc']) L y
theorem Sr.kept {w w' : World} {L : Nat} {xs : List Value} {l : List (Rat × Rat)} (h : Sr w L xs l) (hk : Kept w w') : Sr w' L xs l :=
  ⟨h.1, h.2.1, h.2.2.1, fun i x y hi => by
    obtain ⟨m, so, sn, sc, tp, tn, tc, m', so', sn', sc', tp', tn', tc', h1, h2, h3, h4, h5, h6, h7, h8⟩ := h.2.2.2 i x y hi
    exact ⟨m, so, sn, sc, tp, tn, tc, m', so', sn', sc', tp', tn', tc', h1, h2, h3, h4, h5, h6, h7.kept hk, h8.kept hk⟩⟩
theorem Sr.below {w w' : World} {L : Nat} {xs : List Value} {l : List (Rat × Rat)} (h : Sr w L xs l) (hb : Below w.heap.size w w') : Sr w' L xs l := h.kept (Kept.below hb)
theorem Sr.drew {w : World} {L : Nat} {xs : List Value} {l : List (Rat × Rat)} (h : Sr w L xs l) : Sr w.drew L xs l := h
theorem Sr.setAll {w : World} {L g : Nat} {xs : List Value} {l : List (Rat × Rat)} (h : Sr w L xs l) {vs : List Value} (hb : Box w g vs) (hv : ∀ u ∈ vs, NoWord u) (ys : List Value) (hl : vs.length = ys.length) : Sr (Go.MagM.setAll w g 0 ys) L xs l :=
  ⟨h.1, h.2.1, h.2.2.1, fun i x y hi => by
    obtain ⟨m, so, sn, sc, tp, tn, tc, m', so', sn', sc', tp', tn', tc', h1, h2, h3, h4, h5, h6, h7, h8⟩ := h.2.2.2 i x y hi
    exact ⟨m, so, sn, sc, tp, tn, tc, m', so', sn', sc', tp', tn', tc', h1, h2, h3, h4, h5, h6, h7.setAll hb hv ys hl, h8.setAll hb hv ys hl⟩⟩
theorem Sr.nil (w : World) (L : Nat) : Sr w L [] [] := ⟨by simp, by simp, rfl, fun i x y hi => by simp at hi⟩
theorem Sr.one {w : World} {L : Nat} {m : Bool} {so : Option Addr} {sn sc : Nat} {tp : Option Addr} {tn tc : Nat} {m' : Bool} {so' : Option Addr} {sn' sc' : Nat} {tp' : Option Addr} {tn' tc' : Nat} {x y : Rat}
    (hx : FQ w (.agg #[.bool m, .slice so sn sc, .slice tp tn tc]) L x) (hy : FQ w (.agg #[.bool m', .slice so' sn' sc', .slice tp' tn' tc']) L y) : Sr w L [.bool m, .slice so sn sc, .slice tp tn tc, .bool m', .slice so' sn' sc', .slice tp' tn' tc'] [(x, y)] := by
  refine ⟨?_, noWord6 _ _ _ _ _ _ _ _ _ _ _ _ _ _, rfl, fun i a b hi => ?_⟩
  · intro u hu; simp at hu; rcases hu with rfl | rfl | rfl | rfl | rfl | rfl <;> rfl
  · have hi' := (List.getElem?_eq_some_iff.1 hi).1
    obtain rfl : i = 0 := by simpa using hi'
    simp at hi
    obtain ⟨rfl, rfl⟩ := hi
    exact ⟨_, _, _, _, _, _, _, _, _, _, _, _, _, _, rfl, rfl, rfl, rfl, rfl, rfl, hx, hy⟩
theorem Sr.append {w : World} {L : Nat} {xs ys : List Value} {l k : List (Rat × Rat)} (h : Sr w L xs l) (h' : Sr w L ys k) : Sr w L (xs ++ ys) (l ++ k) := by
  refine ⟨?_, ?_, ?_, fun i x y hi => ?_⟩
  · intro u hu; rw [List.mem_append] at hu; rcases hu with hu | hu
    · exact h.1 u hu
    · exact h'.1 u hu
  · intro u hu; rw [List.mem_append] at hu; rcases hu with hu | hu
    · exact h.2.1 u hu
    · exact h'.2.1 u hu
  · rw [List.length_append, List.length_append, h.2.2.1, h'.2.2.1, Nat.add_mul]
  · by_cases hlt : i < l.length
    · rw [List.getElem?_append_left hlt] at hi
      have hl := h.2.2.1
      obtain ⟨m, so, sn, sc, tp, tn, tc, m', so', sn', sc', tp', tn', tc', h1, h2, h3, h4, h5, h6, h7⟩ := h.2.2.2 i x y hi
      refine ⟨m, so, sn, sc, tp, tn, tc, m', so', sn', sc', tp', tn', tc', ?_, ?_, ?_, ?_, ?_, ?_, h7⟩ <;> rw [List.getElem?_append_left (by omega)] <;> assumption
    · rw [List.getElem?_append_right (by omega)] at hi
      have hl := h.2.2.1
      obtain ⟨m, so, sn, sc, tp, tn, tc, m', so', sn', sc', tp', tn', tc', h1, h2, h3, h4, h5, h6, h7⟩ := h'.2.2.2 _ x y hi
      refine ⟨m, so, sn, sc, tp, tn, tc, m', so', sn', sc', tp', tn', tc', ?_, ?_, ?_, ?_, ?_, ?_, h7⟩
      · rw [List.getElem?_append_right (by omega), show i * 6 - xs.length = (i - l.length) * 6 by omega]; exact h1
      · rw [List.getElem?_append_right (by omega), show i * 6 + 1 - xs.length = (i - l.length) * 6 + 1 by omega]; exact h2
      · rw [List.getElem?_append_right (by omega), show i * 6 + 2 - xs.length = (i - l.length) * 6 + 2 by omega]; exact h3
      · rw [List.getElem?_append_right (by omega), show i * 6 + 3 - xs.length = (i - l.length) * 6 + 3 by omega]; exact h4
      · rw [List.getElem?_append_right (by omega), show i * 6 + 4 - xs.length = (i - l.length) * 6 + 4 by omega]; exact h5
      · rw [List.getElem?_append_right (by omega), show i * 6 + 5 - xs.length = (i - l.length) * 6 + 5 by omega]; exact h6
/-- One of them, where it lies. -/
theorem Sr.at {w : World} {base : Nat} {e : TypeId} {v : Value} {n L : Nat} {xs : List Value} {l : List (Rat × Rat)} (h : Sr w L xs l) (hr : RowN w base e 6 v n xs) {i : Nat} {x y : Rat} (hi : l[i]? = some (x, y)) :
    ∃ g c m so sn sc tp tn tc m' so' sn' sc' tp' tn' tc', v = .slice (some ⟨g, 0, none⟩) n c ∧ At6 w g (i * 6) (.bool m) (.slice so sn sc) (.slice tp tn tc) (.bool m') (.slice so' sn' sc') (.slice tp' tn' tc') ∧
      FQ w (.agg #[.bool m, .slice so sn sc, .slice tp tn tc]) L x ∧ FQ w (.agg #[.bool m', .slice so' sn' sc', .slice tp' tn' tc']) L y := by
  obtain ⟨m, so, sn, sc, tp, tn, tc, m', so', sn', sc', tp', tn', tc', h1, h2, h3, h4, h5, h6, h7, h8⟩ := h.2.2.2 i x y hi
  have hl := (List.getElem?_eq_some_iff.1 h1).1
  rcases hr.2 with ⟨rfl, rfl⟩ | ⟨g, cap, cur, rfl, _⟩
  · have := hr.1; omega
  · exact ⟨g, cap, m, so, sn, sc, tp, tn, tc, m', so', sn', sc', tp', tn', tc', rfl, ⟨hr.cells rfl _ _ h1, hr.cells rfl _ _ h2, hr.cells rfl _ _ h3, hr.cells rfl _ _ h4, hr.cells rfl _ _ h5, hr.cells rfl _ _ h6⟩, h7, h8⟩
/-- A slice that has just been made. -/
theorem RowN.made {w w' : World} {base : Nat} {e : TypeId} {size n : Nat} {xs : List Value} (hw : w.alloc (.cells xs.toArray e) = w') (hb : base ≤ w.heap.size) (hl : xs.length = n * size) (hn : n ≤ maxLen) (hv : ∀ u ∈ xs, NoWord u) :
    RowN w' base e size (.slice (some ⟨w.heap.size, 0, none⟩) n n) n xs := by
  subst hw
  refine ⟨hl, .inr ⟨w.heap.size, n, xs.toArray, rfl, hb, heap_alloc_new w _, Nat.le_refl _, hn, by simpa using hl, ?_, by simpa using hv⟩⟩
  rw [← hl]; simp
theorem At6.grown {w w' : World} {b o : Nat} {v0 v1 v2 v3 v4 v5 : Value} {row : Option Nat} (h : At6 w b o v0 v1 v2 v3 v4 v5) (hg : w.grownBy w' row) (hne : row ≠ some b) : At6 w' b o v0 v1 v2 v3 v4 v5 := by
  have hl := World.block_lt_of_cell? w _ h.c0
  have e := hg.block b hl (fun k => hne k.symm)
  exact ⟨(World.cell?_of_block (a := ⟨b, o, none⟩) e).trans h.c0, (World.cell?_of_block (a := ⟨b, o + 1, none⟩) e).trans h.c1, (World.cell?_of_block (a := ⟨b, o + 2, none⟩) e).trans h.c2, (World.cell?_of_block (a := ⟨b, o + 3, none⟩) e).trans h.c3, (World.cell?_of_block (a := ⟨b, o + 4, none⟩) e).trans h.c4, (World.cell?_of_block (a := ⟨b, o + 5, none⟩) e).trans h.c5⟩
section
variable {P : Program}
theorem wpList_append_row {ops : Array Oper} {rest : List Oper} {w : World} {o : Oper} {a : Act} {Q : Exit → Act → World → Prop} (hgd : o.guard = none) (s x : Operand) (t : TypeId)
    (ho : o.op = .call { callee := .builtin .append, args := #[s, x], argTypes := #[t, t] })
    {v v' : Value} {u : Value} {w' : World} (hs : a.eval s = v) (hx : a.eval x = u) (hr : (Builtin.append_ #[t, t] o.type #[v, u]).run P w = .ok v' w')
    (h : wpList P ops Q rest (a.put o.dst v') w') : wpList P ops Q (o :: rest) a w := wpList_plain hgd fun _ hK => wp_append_row s x t ho hs hx hr (hK _ _ h)
end
end Go.MagM
/- Boxes of ints hold no word. Over no program. -/
namespace Go.MagM
theorem noWordI2 (x y : Int) : ∀ u ∈ [Value.int .i64 x, Value.int .i64 y], NoWord u := by
  intro u hu; simp at hu; rcases hu with rfl | rfl <;> exact NoWord.int _
theorem noWordI6 (x0 x1 x2 x3 x4 x5 : Int) : ∀ u ∈ [Value.int .i64 x0, Value.int .i64 x1, Value.int .i64 x2, Value.int .i64 x3, Value.int .i64 x4, Value.int .i64 x5], NoWord u := by
  intro u hu; simp at hu; rcases hu with rfl | rfl | rfl | rfl | rfl | rfl <;> exact NoWord.int _
end Go.MagM
/- Triangles of a mesh as cells: a Tri is nine cells (three ints, three ints, three bools); a row whose cells are written in place. Over any program; written ahead of layer 9's code. -/
namespace Go.MagM
open Go.RowKit
/-- A triangle: its points, what lies across from each, and which of these edges are faults. -/
structure TriM where
  v0 : Int
  v1 : Int
  v2 : Int
  n0 : Int
  n1 : Int
  n2 : Int
  f0 : Bool
  f1 : Bool
  f2 : Bool
namespace TriM
def v (T : TriM) : Nat → Int
  | 0 => T.v0
  | 1 => T.v1
  | _ => T.v2
def n (T : TriM) : Nat → Int
  | 0 => T.n0
  | 1 => T.n1
  | _ => T.n2
def f (T : TriM) : Nat → Bool
  | 0 => T.f0
  | 1 => T.f1
  | _ => T.f2
def setN (T : TriM) (i : Nat) (x : Int) : TriM := match i with
  | 0 => { T with n0 := x }
  | 1 => { T with n1 := x }
  | _ => { T with n2 := x }
def setF (T : TriM) (i : Nat) (x : Bool) : TriM := match i with
  | 0 => { T with f0 := x }
  | 1 => { T with f1 := x }
  | _ => { T with f2 := x }
def cells (T : TriM) : List Value := [.int .i64 T.v0, .int .i64 T.v1, .int .i64 T.v2, .int .i64 T.n0, .int .i64 T.n1, .int .i64 T.n2, .bool T.f0, .bool T.f1, .bool T.f2]
end TriM
def triCells : List TriM → List Value
  | [] => []
  | T :: t => T.cells ++ triCells t
theorem triCells_len : ∀ l, (triCells l).length = l.length * 9
  | [] => rfl
  | T :: t => by rw [triCells, List.length_append, triCells_len t, List.length_cons]; simp [TriM.cells]; omega
theorem triCells_app : ∀ l k, triCells (l ++ k) = triCells l ++ triCells k
  | [], _ => rfl
  | T :: t, k => by rw [List.cons_append, triCells, triCells_app t k, triCells, List.append_assoc]
theorem triCells_get : ∀ (l : List TriM) (i j : Nat) (T : TriM), l[i]? = some T → j < 9 → (triCells l)[i * 9 + j]? = T.cells[j]?
  | [], _, _, _, h, _ => by simp at h
  | X :: t, 0, j, T, h, hj => by
    simp at h; subst h
    rw [triCells, Nat.zero_mul, Nat.zero_add, List.getElem?_append_left (by simpa [TriM.cells] using hj)]
  | X :: t, i + 1, j, T, h, hj => by
    have := triCells_get t i j T (by simpa using h) hj
    rw [triCells, List.getElem?_append_right (by simp [TriM.cells]; omega)]
    rw [show (i + 1) * 9 + j - X.cells.length = i * 9 + j by simp [TriM.cells]; omega]
    exact this
/-- A cell of one triangle is written. -/
theorem triCells_set : ∀ (l : List TriM) (i j : Nat) (u : Value) (T T' : TriM), l[i]? = some T → j < 9 → T'.cells = T.cells.set j u → (triCells l).set (i * 9 + j) u = triCells (l.set i T')
  | [], _, _, _, _, _, h, _, _ => by simp at h
  | X :: t, 0, j, u, T, T', h, hj, he => by
    simp at h; subst h
    rw [triCells, Nat.zero_mul, Nat.zero_add, List.set_append_left _ _ (by simpa [TriM.cells] using hj), List.set_cons_zero, triCells, he]
  | X :: t, i + 1, j, u, T, T', h, hj, he => by
    have := triCells_set t i j u T T' (by simpa using h) hj he
    rw [triCells, List.set_append_right _ _ (by simp [TriM.cells]; omega), List.set_cons_succ, triCells, ← this]
    rw [show (i + 1) * 9 + j - X.cells.length = i * 9 + j by simp [TriM.cells]; omega]
theorem triCells_setN {l : List TriM} {i : Nat} {T : TriM} (h : l[i]? = some T) (j : Nat) (hj : j < 3) (x : Int) : (triCells l).set (i * 9 + (3 + j)) (.int .i64 x) = triCells (l.set i (T.setN j x)) := by
  refine triCells_set l i (3 + j) _ T _ h (by omega) ?_
  obtain rfl | rfl | rfl : j = 0 ∨ j = 1 ∨ j = 2 := by omega
  all_goals rfl
theorem triCells_setF {l : List TriM} {i : Nat} {T : TriM} (h : l[i]? = some T) (j : Nat) (hj : j < 3) (x : Bool) : (triCells l).set (i * 9 + (6 + j)) (.bool x) = triCells (l.set i (T.setF j x)) := by
  refine triCells_set l i (6 + j) _ T _ h (by omega) ?_
  obtain rfl | rfl | rfl : j = 0 ∨ j = 1 ∨ j = 2 := by omega
  all_goals rfl
/-- A row's cell is written in place. -/
theorem RowN.put {w : World} {base : Nat} {e : TypeId} {size g n c : Nat} {xs : List Value} (h : RowN w base e size (.slice (some ⟨g, 0, none⟩) n c) n xs) (j : Nat) (u : Value) (hu : NoWord u) :
    RowN (w.setCell ⟨g, j, none⟩ u) base e size (.slice (some ⟨g, 0, none⟩) n c) n (xs.set j u) := by
  refine ⟨by rw [List.length_set]; exact h.1, ?_⟩
  rcases h.2 with ⟨h0, _⟩ | ⟨g', cap, cur, h1, h2, h3, h4, h5, h6, h7, h8⟩
  · cases h0
  · simp only [Value.slice.injEq, Option.some.injEq] at h1
    obtain ⟨h1, -, rfl⟩ := h1
    injection h1 with h1
    subst h1
    refine .inr ⟨g, c, cur.setIfInBounds j u, rfl, h2, ?_, h4, h5, by simpa using h6, ?_, fun x hx => ?_⟩
    · simp only [World.setCell, Array.getElem?_modify, if_true]
      rw [h3]
      rfl
    · rw [Array.toList_setIfInBounds, List.take_set, h7]
    · rw [Array.toList_setIfInBounds] at hx
      rcases List.mem_or_eq_of_mem_set hx with hx | rfl
      · exact h8 x hx
      · exact hu
end Go.MagM
