/- mesh's edges: which of two comes first. Written by tools/mesh20.py. -/
import Derived.Test.YtecnnpkpgbbfkaaPartf
import Derived.Test.YtecnnpkpgbbfkaaPartn
import Derived.Test.YtecnnpkpgbbfkaaParte
import Derived.Shelf.SlSortCmp.WholeK
import Derived.Shelf.SlSortCmp.NoneTotal
import Derived.Test.YtecnnpkpgbbfkaaParti
import Derived.StillTailTactics
namespace Go.MagM
open Go.RowKit
/-- An edge of a mesh. -/
structure EdgeM where
 a : Int
 b : Int
 f : Bool
 h : Bool
deriving DecidableEq, Inhabited
def EdgeM.cells (e : EdgeM) : List Value := [.int .i64 e.a, .int .i64 e.b, .bool e.f, .bool e.h]
def edgeVal (e : EdgeM) : Value := .agg #[.int .i64 e.a, .int .i64 e.b, .bool e.f, .bool e.h]
def cmpZ (x y : Int) : Int := if x < y then -1 else if y < x then 1 else 0
def cmpE (x y : EdgeM) : Int := if cmpZ x.a y.a ≠ 0 then cmpZ x.a y.a else cmpZ x.b y.b
def ltE (x y : EdgeM) : Bool := decide (x.a < y.a ∨ x.a = y.a ∧ x.b < y.b)
end Go.MagM
namespace Go.Proofs.Ytecnnpkpgbbfkaa
open Go.RowKit Go.MagM Go.Shelf Go.Sort
theorem ltE_is (x y : EdgeM) : ltOf cmpE x y = ltE x y := by
 unfold ltOf ltE cmpE cmpZ
 apply decide_eq_decide.2
 split <;> split <;> (try split) <;> (try split) <;> omega
theorem swoE : SWO (ltOf cmpE) where
 irrefl x := by rw [ltE_is]; unfold ltE; exact decide_eq_false (by omega)
 trans x y z h1 h2 := by
  rw [ltE_is] at *
  unfold ltE at *
  have h1 := of_decide_eq_true h1; have h2 := of_decide_eq_true h2
  exact decide_eq_true (by omega)
 ntrans x y z h1 h2 := by
  rw [ltE_is] at *
  unfold ltE at *
  have h1 := of_decide_eq_false h1; have h2 := of_decide_eq_false h2
  exact decide_eq_false (by omega)
set_option maxHeartbeats 1000000 in
theorem isNaN_any (x : Int) (w : World) : Calls Try.prog 58 #[.int .i64 x] w fun e w' => e = .returned (.bool false) ∧ w = w' := by
 have q : (x != x) = false := by simp
 go_enter Try.func58, Try.ntmps58
 go_wp2
 go_ret
 exact ⟨rfl, rfl⟩
set_option maxHeartbeats 4000000 in
theorem compareI_any (x y : Int) (w : World) : Calls Try.prog 48 #[.int .i64 x, .int .i64 y] w fun e w' => e = .returned (.int .i64 (cmpZ x y)) ∧ w = w' := by
 have H1 := Lib.hid (fun W => isNaN_any x W); have H2 := Lib.hid (fun W => isNaN_any y W)
 by_cases h : x < y
 ·have hc : cmpZ x y = -1 := by unfold cmpZ; rw [if_pos h]
  rw [hc]
  clear hc
  go_enter Try.func48, Try.ntmps48
  go_wp2_with fail
  refine (H1.out _).mono ?_
  rintro e wz ⟨rfl, rfl⟩
  go_wp2_with fail
  refine (H2.out _).mono ?_
  rintro e wz ⟨rfl, rfl⟩
  go_wp2
  go_ret
  exact ⟨rfl, rfl⟩
 ·by_cases h2 : y < x
  ·have hc : cmpZ x y = 1 := by unfold cmpZ; rw [if_neg h, if_pos h2]
   rw [hc]
   clear hc
   go_enter Try.func48, Try.ntmps48
   go_wp2_with fail
   refine (H1.out _).mono ?_
   rintro e wz ⟨rfl, rfl⟩
   go_wp2_with fail
   refine (H2.out _).mono ?_
   rintro e wz ⟨rfl, rfl⟩
   go_wp2
   go_ret
   exact ⟨rfl, rfl⟩
  ·have hc : cmpZ x y = 0 := by unfold cmpZ; rw [if_neg h, if_neg h2]
   rw [hc]
   clear hc
   go_enter Try.func48, Try.ntmps48
   go_wp2_with fail
   refine (H1.out _).mono ?_
   rintro e wz ⟨rfl, rfl⟩
   go_wp2_with fail
   refine (H2.out _).mono ?_
   rintro e wz ⟨rfl, rfl⟩
   go_wp2
   go_ret
   exact ⟨rfl, rfl⟩
set_option maxHeartbeats 4000000 in
theorem cmpOr_any (b : Nat) (c1 c2 : Int) (w : World) (h1 : w.cell? ⟨b, 0, none⟩ = some (.int .i64 c1)) (h2 : w.cell? ⟨b, 1, none⟩ = some (.int .i64 c2)) : Calls Try.prog 47 #[.slice (some ⟨b, 0, none⟩) 2 2] w fun e w' => e = .returned (.int .i64 (if c1 ≠ 0 then c1 else c2)) ∧ w = w' := by
 obtain ⟨r, hr⟩ : ∃ r, (if c1 ≠ 0 then c1 else c2) = r := ⟨_, rfl⟩
 rw [hr]
 have HR := Lib.hid hr
 clear hr
 go_enter Try.func47, Try.ntmps47
 go_wp2
 go_loopw [5, 8] (fun _ iv wr => ∃ i : Nat, i ≤ 2 ∧ iv = .int .i64 (i : Int) ∧ wr = w ∧ (0 < i → c1 = 0) ∧ (1 < i → c2 = 0)) (fun _ iv _ => 2 - (intOf iv).toNat)
 case atStart => exact ⟨0, by omega, rfl, rfl, fun h => by omega, fun h => by omega⟩
 case round =>
  obtain ⟨i, hi, rfl, rfl, g1, g2⟩ := hrel
  have G1 := Lib.hid g1; have G2 := Lib.hid g2
  clear g1 g2
  obtain rfl | rfl | rfl : i = 0 ∨ i = 1 ∨ i = 2 := by omega
  ·by_cases hz : c1 = 0
   ·have q : (c1 != 0) = false := by simpa using hz
    have q2 : (c1 == 0) = true := by simpa using hz
    have HZ := Lib.hid hz
    clear hz
    go_wp2
    exact ⟨⟨1, by omega, by go_num, by first | rfl | trivial, fun _ => HZ.out, fun h => by omega⟩, by simp [intOf]⟩
   ·have q : (c1 != 0) = true := by simpa using hz
    have q2 : (c1 == 0) = false := by simpa using hz
    have hrc : r = c1 := by rw [← HR.out, if_pos hz]
    clear hz
    go_wp2
    go_ret
    exact ⟨by rw [hrc]; rfl, rfl⟩
  ·have h0 := G1.out (by omega)
   by_cases hz : c2 = 0
   ·have q : (c2 != 0) = false := by simpa using hz
    have q2 : (c2 == 0) = true := by simpa using hz
    have HZ := Lib.hid hz
    have H0 := Lib.hid h0
    clear hz h0
    go_wp2
    exact ⟨⟨2, by omega, by go_num, by first | rfl | trivial, fun _ => H0.out, fun _ => HZ.out⟩, by simp [intOf]⟩
   ·have q : (c2 != 0) = true := by simpa using hz
    have q2 : (c2 == 0) = false := by simpa using hz
    have hrc : r = c2 := by rw [← HR.out, if_neg (fun h => h h0)]
    clear hz h0
    go_wp2
    go_ret
    exact ⟨by rw [hrc]; rfl, rfl⟩
  ·have h0 := G1.out (by omega)
   have h3 := G2.out (by omega)
   have hrc : r = 0 := by rw [← HR.out, if_neg (fun h => h h0)]; exact h3
   clear h0 h3
   go_wp2
   go_ret
   exact ⟨by rw [hrc]; rfl, rfl⟩
set_option maxRecDepth 100000 in
set_option maxHeartbeats 4000000 in
theorem edgesCmp_any (x y : EdgeM) (W : World) : Calls Try.prog 46 #[edgeVal x, edgeVal y] W fun e w' => e = .returned (.int .i64 (cmpE x y)) ∧ ∃ q os', w' = Go.Sort.grow (W.drewN q) os' := by
 obtain ⟨xa, xb, xf, xh⟩ := x
 obtain ⟨ya, yb, yf, yh⟩ := y
 unfold edgeVal
 simp only []
 obtain ⟨r, hr⟩ : ∃ r, cmpE ⟨xa, xb, xf, xh⟩ ⟨ya, yb, yf, yh⟩ = r := ⟨_, rfl⟩
 rw [hr]
 unfold cmpE at hr
 simp only [] at hr
 obtain ⟨w1, hw1, px, hb1, hs1⟩ := new_box W _ rfl [.int .i64 xa, .int .i64 xb, .bool xf, .bool xh] 37
 obtain ⟨w2, hw2, py, hb2, hs2⟩ := new_box w1 _ rfl [.int .i64 ya, .int .i64 yb, .bool yf, .bool yh] 37
 obtain ⟨c1, hc1⟩ : ∃ c, cmpZ xa ya = c := ⟨_, rfl⟩
 obtain ⟨c2, hc2⟩ : ∃ c, cmpZ xb yb = c := ⟨_, rfl⟩
 have HC1 := Lib.hid (fun W' => compareI_any xa ya W'); have HC2 := Lib.hid (fun W' => compareI_any xb yb W')
 rw [hc1] at HC1 hr; rw [hc2] at HC2 hr
 obtain ⟨p, hp⟩ : ∃ p, W.heap.size = p := ⟨_, rfl⟩
 obtain ⟨q, hq⟩ : ∃ q, w1.heap.size = q := ⟨_, rfl⟩
 rw [hp] at px; rw [hq] at py
 have px2 := px.below hb2
 have CC := Lib.hid (show ∀ w', Below w2.heap.size w2 w' → w'.cell? ⟨p, 0, none⟩ = some (.int .i64 xa) ∧ w'.cell? ⟨p, 1, none⟩ = some (.int .i64 xb) ∧ w'.cell? ⟨q, 0, none⟩ = some (.int .i64 ya) ∧ w'.cell? ⟨q, 1, none⟩ = some (.int .i64 yb) from fun w' hb => by
  have h1 := px2.below hb; have h2 := py.below hb
  exact ⟨h1.c 0 _ rfl, h1.c 1 _ rfl, h2.c 0 _ rfl, h2.c 1 _ rfl⟩)
 have HR := Lib.hid hr
 have HWW := Lib.hid (And.intro hw1 hw2)
 clear px py hb1 hb2 hs1 hs2 px2 hr hc1 hc2
 go_enter Try.func46, Try.ntmps46
 go_wp2_with fail
 clear hp hq
 refine wp_region_noPanic ?_
 refine wp_region_held_drew (S := fun w' => w'.cell? ⟨p, 0, none⟩ = some (.int .i64 xa) ∧ w'.cell? ⟨p, 1, none⟩ = some (.int .i64 xb) ∧ w'.cell? ⟨q, 0, none⟩ = some (.int .i64 ya) ∧ w'.cell? ⟨q, 1, none⟩ = some (.int .i64 yb)) (by kernel_rfl) (CC.out _ (Below.refl _ _).drew') (fun hHeld => ?_)
 refine rU 0 _ _ ?_
 (try simp only [Act.put]);try simp only [sA,sZ,sS]
 refine rU 1 _ _ ?_
 (try simp only [Act.put]);try simp only [sA,sZ,sS]
 refine rU 2 _ _ ?_
 (try simp only [Act.put]);try simp only [sA,sZ,sS]
 refine rU 3 _ _ ?_
 (try simp only [Act.put]);try simp only [sA,sZ,sS]
 refine rU 5 _ _ ?_
 (try simp only [Act.put]);try simp only [sA,sZ,sS]
 refine rU 6 _ _ ?_
 (try simp only [Act.put]);try simp only [sA,sZ,sS]
 refine rU 7 _ _ ?_
 (try simp only [Act.put]);try simp only [sA,sZ,sS]
 refine rU 8 _ _ ?_
 (try simp only [Act.put]);try simp only [sA,sZ,sS]
 refine reg_call 4 ?_ (by kernel_rfl) ?_ (fun K hK => ?_);rotate_left 1
 ·simp only [gA,gS,gZ]; exact rfl
 go_simp
 refine (HC1.out _).mono ?_
 rintro e wz ⟨rfl, rfl⟩
 go_wp2_with fail
 refine hK.out _ _ (CC.out _ (Below.refl _ _).drew') (fun hHeld => ?_)
 clear hK K
 (try simp only [Act.put]);try simp only [sA,sZ,sS]
 refine reg_call 9 ?_ (by kernel_rfl) ?_ (fun K hK => ?_);rotate_left 1
 ·simp only [gA,gS,gZ]; exact rfl
 go_simp
 refine (HC2.out _).mono ?_
 rintro e wz ⟨rfl, rfl⟩
 go_wp2_with fail
 refine hK.out _ _ (CC.out _ (Below.refl _ _).drew') (fun hHeld => ?_)
 clear hK K
 (try simp only [Act.put]);try simp only [sA,sZ,sS]
 refine reg_call 10 ?_ (by kernel_rfl) ?_ (fun K hK => ?_);rotate_left 1
 ·simp only [gA,gS,gZ]; exact rfl
 obtain ⟨w3, hw3, pz, hb3, hs3⟩ := new_box w2.drew _ rfl [.int .i64 c1, .int .i64 c2] 3
 go_simp
 try rw [hw3]
 refine hK.out _ _ (CC.out _ ((Below.refl w2.heap.size w2).drew'.trans (hb3.mono (Below.refl w2.heap.size w2).drew'.size))) (fun hHeld => ?_)
 clear hK K
 (try simp only [Act.put]);try simp only [sA,sZ,sS]
 refine reg_call 11 ?_ (by kernel_rfl) ?_ (fun K hK => ?_);rotate_left 1
 ·simp only [gA,gS,gZ]; exact rfl
 have HOR := cmpOr_any _ c1 c2 w3 (pz.c 0 _ rfl) (pz.c 1 _ rfl)
 rw [HR.out] at HOR
 go_simp
 refine HOR.mono ?_
 rintro e wz ⟨rfl, rfl⟩
 go_wp2_with fail
 refine hK.out _ _ (CC.out _ ((Below.refl w2.heap.size w2).drew'.trans (hb3.mono (Below.refl w2.heap.size w2).drew'.size))) (fun hHeld => ?_)
 clear hK K
 (try simp only [Act.put]);try simp only [sA,sZ,sS]
 refine rU 12 _ _ ?_
 (try simp only [Act.put]);try simp only [sA,sZ,sS]
 refine wpAnyH_done (by kernel_rfl) ?_ _
 refine NoPanic.normal ?_
 go_wp2
 go_ret
 refine ⟨?_, 1, #[.cells #[.int .i64 xa, .int .i64 xb, .bool xf, .bool xh] 37] ++ #[.cells #[.int .i64 ya, .int .i64 yb, .bool yf, .bool yh] 37] ++ #[.cells #[.int .i64 c1, .int .i64 c2] 3], ?_⟩
 ·rfl
 ·obtain ⟨e1, e2⟩ := HWW.out
  rw [← hw3, ← e2, ← e1, alloc_eq_grow, alloc_eq_grow, alloc_eq_grow, ← grow_grow, ← grow_grow]
  rfl
end Go.Proofs.Ytecnnpkpgbbfkaa
/- A part of a box is written. Over no program. -/
namespace Go.MagM
open Go.RowKit
section
variable {P : Program}
theorem run_storeCells_box {g : Nat} (off : Nat) : ∀ (xs : List Value) (i : Nat) {w : World} {vs : List Value}, Box w g vs → off + i + xs.length ≤ vs.length → (∀ v ∈ xs, v.oneCell' = true) → (storeCells ⟨g, off, none⟩ xs i).run P w = .ok () (Go.MagM.setAll w g (off + i) xs)
 | [], i, w, _, _, _, _ => rfl
 | x :: xs, i, w, vs, hb, hl, h1 => by
  have hl' : off + i + (xs.length + 1) ≤ vs.length := by simpa using hl
  have ho : vs[off + i]? = some (vs[off + i]'(by omega)) := List.getElem?_eq_getElem (by omega)
  have hc := hb.c (off + i) _ ho
  have hf := hb.f (off + i) _ ho
  have ha : (⟨g, off, none⟩ : Addr).add i = ⟨g, off + i, none⟩ := by unfold Addr.add; split <;> simp_all
  have ih := run_storeCells_box off xs (i + 1) (hb.set (off + i) x) (by simpa using by omega) (fun v hv => h1 v (by simp [hv]))
  rw [storeCells, Sem.run_bind, run_store P w _ x .plain (h1 x (by simp)), ha, hc]
  simp only [hf, Bool.false_eq_true, if_false, Result.andThen_ok]
  exact ih
/-- A store of several cells into a box. -/
theorem wp_store_box {o : Oper} {a : Act} {w : World} {K : Act → World → Prop} {Q : Exit → Act → World → Prop} (ty : TypeId) (x y : Operand) (ho : o.op = .store ty x y)
  {g off : Nat} {vs : List Value} (xs : List Value) (hb : Box w g vs) (hx : a.eval x = .pointer (some ⟨g, off, none⟩)) (hy : a.eval y = .agg xs.toArray) (hi : (P.info? ty).map (·.size) = some xs.length)
  (hl : off + xs.length ≤ vs.length) (h1 : xs.all (·.oneCell') = true) {w' : World} (hw : Go.MagM.setAll w g off xs = w') (h : K (a.put o.dst undef) w') : o.wp P a w K Q := by
 have hr := run_storeCells_box (P := P) off xs 0 hb (by omega) (fun v hv => List.all_eq_true.1 h1 v hv)
 have hr2 : (storeVar ty ⟨g, off, none⟩ (.agg xs.toArray)).run P w = .ok () (Go.MagM.setAll w g off xs) := by
  cases hq : P.info? ty with
  | none => simp [hq] at hi
  | some i =>
   have hs : xs.length = i.size := by simp [hq] at hi; omega
   simp only [Nat.add_zero] at hr
   simp [storeVar, sizeOf, typeInfo, hq, Value.cells, hs, hr]
 unfold Oper.wp execOp
 simp only [ho, hx, hy, Instr.storeAt, Instr.sureAddr, Sem.run_bind, Sem.run_pure, Result.andThen_ok, hr2]
 rw [hw]; exact h
theorem wpList_store_box {ops : Array Oper} {rest : List Oper} {o : Oper} {a : Act} {w : World} {Q : Exit → Act → World → Prop} (hg : o.guard = none) (ty : TypeId) (x y : Operand) (ho : o.op = .store ty x y)
  {g off : Nat} {vs : List Value} (xs : List Value) (hb : Box w g vs) (hx : a.eval x = .pointer (some ⟨g, off, none⟩)) (hy : a.eval y = .agg xs.toArray) (hi : (P.info? ty).map (·.size) = some xs.length)
  (hl : off + xs.length ≤ vs.length) (h1 : xs.all (·.oneCell') = true) {w' : World} (hw : Go.MagM.setAll w g off xs = w') (h : wpList P ops Q rest (a.put o.dst undef) w') : wpList P ops Q (o :: rest) a w :=
 wpList_plain hg fun _ hK => wp_store_box ty x y ho xs hb hx hy hi hl h1 hw (hK _ _ h)
end
end Go.MagM
/- A mesh that may be written: its triangles lie in a row of their own. Over any program. -/
namespace Go.MagM
open Go.RowKit
/-- Cells i, i + 1, .. of a list are written. -/
def setL (vs : List Value) : Nat → List Value → List Value
 | _, [] => vs
 | i, x :: xs => setL (vs.set i x) (i + 1) xs
theorem setL_get : ∀ (xs vs : List Value) (i j : Nat), i + xs.length ≤ vs.length → (setL vs i xs)[j]? = if i ≤ j ∧ j < i + xs.length then xs[j - i]? else vs[j]?
 | [], vs, i, j, _ => by rw [setL, if_neg (by simp)]
 | x :: xs, vs, i, j, h => by
  have hl : i + (xs.length + 1) ≤ vs.length := by simpa using h
  rw [setL, setL_get xs (vs.set i x) (i + 1) j (by rw [List.length_set]; omega), List.getElem?_set, List.length_cons]
  by_cases h1 : i = j
  ·subst h1
   rw [if_neg (by omega), if_pos rfl, if_pos (by omega), if_pos (by omega), Nat.sub_self]; rfl
  ·by_cases h2 : i + 1 ≤ j ∧ j < i + 1 + xs.length
   ·rw [if_pos h2, if_pos (by omega), show j - i = (j - (i + 1)) + 1 by omega]; rfl
   ·rw [if_neg h2, if_neg h1, if_neg (by omega)]
theorem TriM.cells_len (T : TriM) : T.cells.length = 9 := rfl
theorem setL_tri {S : List TriM} {k : Nat} (hk : k < S.length) (T : TriM) : setL (triCells S) (k * 9) T.cells = triCells (S.set k T) := by
 have hl : k * 9 + T.cells.length ≤ (triCells S).length := by rw [triCells_len, T.cells_len]; omega
 refine List.ext_getElem? fun j => ?_
 rw [setL_get _ _ _ _ hl, T.cells_len]
 by_cases hj : j < S.length * 9
 ·obtain ⟨q, r, hr, rfl⟩ : ∃ q r, r < 9 ∧ j = q * 9 + r := ⟨j / 9, j % 9, Nat.mod_lt _ (by omega), by omega⟩
  have hq : q < S.length := by omega
  by_cases hqk : q = k
  ·subst hqk
   rw [if_pos (by omega), triCells_get (S.set q T) q r T (by rw [List.getElem?_set, if_pos rfl, if_pos hq]) hr, show q * 9 + r - q * 9 = r by omega]
  ·rw [if_neg (by omega)]
   obtain ⟨U, hU⟩ : ∃ U, S[q]? = some U := ⟨_, List.getElem?_eq_getElem hq⟩
   rw [triCells_get S q r U hU hr, triCells_get (S.set k T) q r U (by rw [List.getElem?_set, if_neg (fun e => hqk e.symm)]; exact hU) hr]
 ·rw [if_neg (by omega), List.getElem?_eq_none (by rw [triCells_len]; omega), List.getElem?_eq_none (by rw [triCells_len, List.length_set]; omega)]
theorem owns_put {w : World} {base : Nat} {e : TypeId} {size g n c : Nat} {xs : List Value} (h : w.ownsRow base e size (.slice (some ⟨g, 0, none⟩) n c) n xs) (j : Nat) (u : Value) :
  (w.setCell ⟨g, j, none⟩ u).ownsRow base e size (.slice (some ⟨g, 0, none⟩) n c) n (xs.set j u) := by
 refine ⟨by rw [List.length_set]; exact h.1, ?_⟩
 rcases h.2 with ⟨h0, _⟩ | ⟨g', cap, cur, h1, h2, h3, h4, h5, h6, h7⟩
 ·cases h0
 ·simp only [Value.slice.injEq, Option.some.injEq] at h1
  obtain ⟨h1, -, rfl⟩ := h1
  injection h1 with h1
  subst h1
  refine .inr ⟨g, c, cur.setIfInBounds j u, rfl, h2, ?_, h4, h5, by simpa using h6, ?_⟩
  ·simp only [World.setCell, Array.getElem?_modify, if_true]
   rw [h3]
   rfl
  ·rw [Array.toList_setIfInBounds, List.take_set, h7]
theorem owns_setAll {base : Nat} {e : TypeId} {size g n c : Nat} : ∀ (ys : List Value) (i : Nat) {w : World} {xs : List Value}, w.ownsRow base e size (.slice (some ⟨g, 0, none⟩) n c) n xs →
  (setAll w g i ys).ownsRow base e size (.slice (some ⟨g, 0, none⟩) n c) n (setL xs i ys)
 | [], _, _, _, h => h
 | y :: ys, i, _, _, h => owns_setAll ys (i + 1) (owns_put h i y)
theorem turned_setAll {w : World} {g : Nat} : ∀ (ys : List Value) (i : Nat) {w'' : World}, Turned w w'' g → Turned w (setAll w'' g i ys) g
 | [], _, _, h' => h'
 | y :: ys, i, _, h' => turned_setAll ys (i + 1) (h'.setCell i y)
def ptsCells : List (Int × Int) → List Value
 | [] => []
 | q :: t => [.int .i64 q.1, .int .i64 q.2] ++ ptsCells t
theorem ptsCells_len : ∀ l, (ptsCells l).length = l.length * 2
 | [] => rfl
 | q :: t => by rw [ptsCells, List.length_append, ptsCells_len t, List.length_cons]; simp; omega
theorem ptsCells_app : ∀ l k, ptsCells (l ++ k) = ptsCells l ++ ptsCells k
 | [], _ => rfl
 | q :: t, k => by rw [List.cons_append, ptsCells, ptsCells_app t k, ptsCells, List.append_assoc]
theorem ptsCells_get : ∀ (l : List (Int × Int)) (i : Nat) (x y : Int), l[i]? = some (x, y) → (ptsCells l)[i * 2]? = some (.int .i64 x) ∧ (ptsCells l)[i * 2 + 1]? = some (.int .i64 y)
 | [], _, _, _, h => by simp at h
 | q :: t, 0, x, y, h => by simp at h; subst h; exact ⟨rfl, rfl⟩
 | q :: t, i + 1, x, y, h => by
  have := ptsCells_get t i x y (by simpa using h)
  rw [ptsCells, List.getElem?_append_right (by simp; omega), List.getElem?_append_right (by simp; omega)]
  rw [show (i + 1) * 2 - [Value.int .i64 q.1, Value.int .i64 q.2].length = i * 2 by simp; omega, show (i + 1) * 2 + 1 - [Value.int .i64 q.1, Value.int .i64 q.2].length = i * 2 + 1 by simp; omega]
  exact this
/-- A mesh lies at mb; nothing of it below lo; its triangles are the slice tv, in a row of their own (of elements e). -/
structure MeshO (p e : TypeId) (w : World) (lo mb pb pc : Nat) (tv : Value) (P : List (Int × Int)) (S : List TriM) : Prop where
 box : Box w mb [.slice (some ⟨pb, 0, none⟩) P.length pc, tv]
 prow : w.ownsRow lo p 2 (.slice (some ⟨pb, 0, none⟩) P.length pc) P.length (ptsCells P)
 row : w.ownsRow lo e 9 tv S.length (triCells S)
 low : lo ≤ mb ∧ mb < w.heap.size ∧ pb < w.heap.size ∧ pb ≠ mb
 apart : tv.ownBlock ≠ some mb ∧ tv.ownBlock ≠ some pb
 short : P.length ≤ 1000000 ∧ S.length ≤ 1000000
theorem MeshO.pts {p e : TypeId} {w : World} {lo mb pb pc : Nat} {tv : Value} {P : List (Int × Int)} {S : List TriM} (h : MeshO p e w lo mb pb pc tv P S) : PtsIn w pb P := fun i x y hi => by
 obtain ⟨h1, h2⟩ := ptsCells_get P i x y hi
 have hb := owns_box h.prow
 exact ⟨hb.c _ _ h1, hb.c _ _ h2⟩
/-- As it is read. -/
theorem MeshO.read {p e : TypeId} {w : World} {lo mb pb pc : Nat} {tv : Value} {P : List (Int × Int)} {S : List TriM} (h : MeshO p e w lo mb pb pc tv P S) : ∃ ta tc, tv = .slice ta S.length tc ∧ MeshR w mb pb pc ta tc P S := by
 have hb := h.box
 rcases h.row.2 with ⟨rfl, h0⟩ | ⟨g, cap, cur, rfl, h2, h3, h4⟩
 ·have hS : S = [] := List.eq_nil_of_length_eq_zero h0
  subst hS
  exact ⟨none, 0, rfl, hb, h.pts, fun i T hi => by simp at hi, h.short⟩
 ·refine ⟨_, cap, rfl, hb, h.pts, fun i T hi => ⟨g, rfl, fun j v hj => ?_⟩, h.short⟩
  have hx := owns_box h.row
  exact hx.c _ _ (by rw [triCells_get S i j T hi (by have := (List.getElem?_eq_some_iff.1 hj).1; exact this)]; exact hj)
/-- What a call that writes a mesh leaves. -/
structure Mut (w w' : World) (mb : Nat) (tv tv' : Value) : Prop where
 os : w'.os = w.os
 tape : w'.tape = w.tape
 output : w'.output = w.output
 size : w.heap.size ≤ w'.heap.size
 keep : ∀ k, k < w.heap.size → k ≠ mb → tv.ownBlock ≠ some k → w'.heap[k]? = w.heap[k]? ∧ tv'.ownBlock ≠ some k
theorem Mut.refl (w : World) (mb : Nat) (tv : Value) : Mut w w mb tv tv := ⟨rfl, rfl, rfl, Nat.le_refl _, fun _ _ _ h => ⟨rfl, h⟩⟩
theorem Mut.trans {a b c : World} {mb : Nat} {t u v : Value} (h : Mut a b mb t u) (k : Mut b c mb u v) : Mut a c mb t v :=
 ⟨k.os.trans h.os, k.tape.trans h.tape, k.output.trans h.output, Nat.le_trans h.size k.size, fun i hi h1 h2 => by
  obtain ⟨e1, e2⟩ := h.keep i hi h1 h2
  obtain ⟨e3, e4⟩ := k.keep i (Nat.lt_of_lt_of_le hi h.size) h1 e2
  exact ⟨e3.trans e1, e4⟩⟩
theorem Mut.below {w w' : World} {mb B : Nat} {tv tv' : Value} (h : Mut w w' mb tv tv') (hB : B ≤ w.heap.size) (hm : B ≤ mb) (ht : ∀ k, tv.ownBlock = some k → B ≤ k) : Below B w w' :=
 ⟨h.os, h.tape, h.output, h.size, fun k hk => (h.keep k (by omega) (by omega) (fun e => by have := ht k e; omega)).1⟩
/-- What lies where no mesh is. -/
theorem Mut.of_below {w w' : World} {mb : Nat} {tv : Value} (h : Below w.heap.size w w') (_ht : ∀ k, tv.ownBlock = some k → k < w.heap.size) : Mut w w' mb tv tv :=
 ⟨h.os, h.tape, h.output, h.size, fun k hk _ h2 => ⟨h.block k hk, h2⟩⟩
theorem MeshO.below {p e : TypeId} {w w' : World} {lo mb pb pc : Nat} {tv : Value} {P : List (Int × Int)} {S : List TriM} (h : MeshO p e w lo mb pb pc tv P S) (hb : Below w.heap.size w w') : MeshO p e w' lo mb pb pc tv P S :=
 ⟨h.box.below hb, owns_blow h.prow hb, owns_blow h.row hb, by have := h.low; have := hb.size; omega, h.apart, h.short⟩
theorem MeshO.drew {p e : TypeId} {w : World} {lo mb pb pc : Nat} {tv : Value} {P : List (Int × Int)} {S : List TriM} (h : MeshO p e w lo mb pb pc tv P S) : MeshO p e w.drew lo mb pb pc tv P S :=
 ⟨h.box.drew, h.prow, h.row, h.low, h.apart, h.short⟩
theorem Box.same {w w' : World} {g : Nat} {vs : List Value} (h : Box w g vs) (e : w'.heap[g]? = w.heap[g]?) : Box w' g vs :=
 ⟨fun i u hi => (World.cell?_of_block (a := ⟨g, i, none⟩) e).trans (h.c i u hi), fun i u hi => (World.frozen?_of_block (a := ⟨g, i, none⟩) e).trans (h.f i u hi)⟩
theorem PtsIn.same {w w' : World} {b : Nat} {l : List (Int × Int)} (h : PtsIn w b l) (e : w'.heap[b]? = w.heap[b]?) : PtsIn w' b l := fun i x y hi => by
 obtain ⟨h1, h2⟩ := h i x y hi
 exact ⟨(World.cell?_of_block (a := ⟨b, i * 2, none⟩) e).trans h1, (World.cell?_of_block (a := ⟨b, i * 2 + 1, none⟩) e).trans h2⟩
theorem owns_same {w w' : World} {base : Nat} {e : TypeId} {size : Nat} {v : Value} {n : Nat} {xs : List Value} (h : w.ownsRow base e size v n xs) (hs : ∀ k, v.ownBlock = some k → w'.heap[k]? = w.heap[k]?) : w'.ownsRow base e size v n xs := by
 refine ⟨h.1, ?_⟩
 rcases h.2 with hn | ⟨g, cap, cur, rfl, h2, h3, h4⟩
 ·exact .inl hn
 ·exact .inr ⟨g, cap, cur, rfl, h2, (hs g rfl).trans h3, h4⟩
/-- Another mesh stays. -/
theorem MeshO.mut {p e : TypeId} {w w' : World} {lo mb pb pc : Nat} {tv : Value} {P : List (Int × Int)} {S : List TriM} (h : MeshO p e w lo mb pb pc tv P S) {mb2 : Nat} {tv2 tv2' : Value} (hm : Mut w w' mb2 tv2 tv2')
  (h1 : mb ≠ mb2 ∧ tv2.ownBlock ≠ some mb) (h2 : pb ≠ mb2 ∧ tv2.ownBlock ≠ some pb) (h3 : ∀ k, tv.ownBlock = some k → k ≠ mb2 ∧ tv2.ownBlock ≠ some k) : MeshO p e w' lo mb pb pc tv P S := by
 have e1 := (hm.keep mb h.low.2.1 h1.1 h1.2).1
 have e2 := (hm.keep pb h.low.2.2.1 h2.1 h2.2).1
 refine ⟨h.box.same e1, owns_same h.prow (fun k hk => by obtain rfl : k = pb := (by simpa [Value.ownBlock] using hk.symm); exact e2), owns_same h.row fun k hk => ?_, by have := h.low; have := hm.size; omega, h.apart, h.short⟩
 have h4 := h3 k hk
 exact (hm.keep k (h.row.lt k hk).2 h4.1 h4.2).1
/-- A triangle of a mesh is written in place. -/
theorem MeshO.setT {p e : TypeId} {w : World} {lo mb pb pc g c : Nat} {P : List (Int × Int)} {S : List TriM} (h : MeshO p e w lo mb pb pc (.slice (some ⟨g, 0, none⟩) S.length c) P S) {S' : List TriM} (i : Nat) (ys : List Value) (hl : S'.length = S.length) (hs : setL (triCells S) i ys = triCells S') :
  MeshO p e (setAll w g i ys) lo mb pb pc (.slice (some ⟨g, 0, none⟩) S.length c) P S' ∧ Mut w (setAll w g i ys) mb (.slice (some ⟨g, 0, none⟩) S.length c) (.slice (some ⟨g, 0, none⟩) S.length c) := by
 have ht : Turned w (setAll w g i ys) g := turned_setAll ys i (Turned.refl w g)
 have hmg : mb ≠ g := fun e => h.apart.1 (by rw [e]; rfl)
 have hpg : pb ≠ g := fun e => h.apart.2 (by rw [e]; rfl)
 refine ⟨⟨h.box.same (ht.block mb hmg), owns_same h.prow (fun k hk => by obtain rfl : k = pb := (by simpa [Value.ownBlock] using hk.symm); exact ht.block _ hpg), ?_, by rw [ht.size]; exact h.low, h.apart, by rw [hl]; exact h.short⟩, ⟨ht.os, ht.tape, ht.output, by rw [ht.size]; exact Nat.le_refl _, fun k _ _ h2 => ⟨ht.block k (fun e => h2 (by rw [e]; rfl)), h2⟩⟩⟩
 have := owns_setAll ys i h.row
 rw [hs] at this
 rw [hl]; exact this
end Go.MagM
/- mesh's check: Sound. -/
namespace Go.Proofs.Ytecnnpkpgbbfkaa
open Go.RowKit Go.MagM
/-- A triangle is as it should be, or gone. -/
def okT (P : List (Int × Int)) (S : List TriM) (t : Nat) (T : TriM) : Bool := goneB T || (formedT P S T && linkedT S t T)
/-- So many of the first k have Ghost. -/
def ghN (S : List TriM) : Nat → Nat
 | 0 => 0
 | k + 1 => ghN S k + if placeM S (k : Int) (-1) = -1 then 0 else 1
theorem ghN_none {S : List TriM} {k : Nat} (h : placeM S (k : Int) (-1) = -1) : ghN S (k + 1) = ghN S k := by
 show ghN S k + _ = _; rw [if_pos h]; rfl
theorem ghN_some {S : List TriM} {k : Nat} (h : placeM S (k : Int) (-1) ≠ -1) : ghN S (k + 1) = ghN S k + 1 := by
 show ghN S k + _ = _; rw [if_neg h]
theorem ghN_le (S : List TriM) : ∀ k, ghN S k ≤ k
 | 0 => Nat.le_refl _
 | k + 1 => by have := ghN_le S k; unfold ghN; split <;> omega
/-- What Sound answers. -/
def SoundIs (P : List (Int × Int)) (S : List TriM) (r : Bool) : Prop :=
 (r = false ∧ ∃ k T, S[k]? = some T ∧ okT P S k T = false) ∨
 (r = true ∧ (∀ k T, S[k]? = some T → okT P S k T = true) ∧ borderM S ≠ [] ∧ (borderM S).length = ghN S S.length ∧ ∃ hs : List Nat, borderM S = hs.map (fun v : Nat => (v : Int)) ∧ (∀ v, v ∈ hs → v < P.length) ∧ convexM P hs = true)
set_option maxRecDepth 100000 in
set_option maxHeartbeats 16000000 in
theorem Sound_any {mb pb pc : Nat} {ta : Option Addr} {tc : Nat} {P : List (Int × Int)} {S : List TriM} (r : Bool) (w : World) (h : MeshR w mb pb pc ta tc P S) (hP : InPs P) (hP0 : P ≠ []) (hr : SoundIs P S r) :
  Calls Try.prog 7 #[.pointer (some ⟨mb, 0, none⟩)] w fun e w' => e = .returned (.bool r) ∧ Below w.heap.size w w' := by
 have hsh := h.short.2
 have H := Lib.hid h; have HR := Lib.hid hr; have HPS := Lib.hid hP; have HP0 := Lib.hid hP0
 obtain ⟨b0, b1, -, -⟩ := h.box.open2
 clear h hr hP hP0
 go_enter Try.func7, Try.ntmps7
 go_wp2
 clear b0 b1
 go_loopw [3, 4, 13] (fun gv _ iv wr => ∃ k : Nat, k ≤ S.length ∧ iv = .int .i64 k ∧ gv = .int .i64 (ghN S k : Nat) ∧ (∀ j T, j < k → S[j]? = some T → okT P S j T = true) ∧ Below w.heap.size w wr) (fun _ _ iv _ => S.length - (intOf iv).toNat)
 case atStart => exact ⟨0, Nat.zero_le _, rfl, rfl, fun j T hj => by omega, Below.refl _ _⟩
 case round =>
  obtain ⟨k, hk, rfl, rfl, hne, hB_0⟩ := hrel
  have HNE := Lib.hid hne; clear hne
  have hgn := ghN_le S k
  by_cases hlt : k < S.length
  ·obtain ⟨T, hT⟩ : ∃ T, S[k]? = some T := ⟨_, List.getElem?_eq_getElem hlt⟩
   have hm_0 := H.out.below hB_0
   have b0 := hm_0.box.c0; have b1 := hm_0.box.c1
   obtain ⟨tb, hta, htl, ht9⟩ := hm_0.tris.get hT
   subst hta
   have HT := Lib.hid hT
   have hgone := gone_any tb (k * 9) T wr ht9.c0 ht9.c1 ht9.c2
   obtain ⟨ok, hok⟩ : ∃ ok, okT P S k T = ok := ⟨_, rfl⟩
   have hstep : ok = true → ∀ j T', j < k + 1 → S[j]? = some T' → okT P S j T' = true := by
    intro e j T' hj hT'
    rcases Nat.lt_or_ge j k with g | g
    ·exact HNE.out j T' g hT'
    ·obtain rfl : j = k := by omega
     rw [HT.out] at hT'; cases hT'
     rw [hok, e]
   have hbad : ok = false → r = false := by
    intro e
    rcases HR.out with h | h
    ·exact h.1
    ·have := h.2.1 k T HT.out
     rw [hok, e] at this; cases this
   have HSTEP := Lib.hid hstep; have HBAD := Lib.hid hbad
   have hpk : placeM S (k : Int) (-1) = if goneB T then -1 else placeT T (-1) := by unfold placeM; rw [getT_nat, HT.out]
   unfold okT at hok
   clear hT hstep hbad
   cases hg : goneB T with
   | true =>
    rw [hg] at hgone hok hpk
    simp only [Bool.true_or, if_true] at hok hpk
    have HG := Lib.hid hgone; have HPK := Lib.hid hpk; have HOK := Lib.hid hok
    clear hg hgone hok hpk ht9
    go_wp2_with fail
    refine HG.out.mono ?_
    rintro e w' ⟨rfl, rfl⟩
    go_wp2
    go_roundw
    case rel => exact ⟨k + 1, by omega, by go_num, by rw [ghN_none HPK.out], HSTEP.out HOK.out.symm, hB_0⟩
    case measure => simp [intOf]; omega
   | false =>
    rw [hg] at hgone hok hpk
    simp only [Bool.false_or, Bool.false_eq_true, if_false] at hok hpk
    have hform := formed_any k T wr hm_0 HPS.out HT.out
    have hlink := fun w' (hb : Below wr.heap.size wr w') => linked_any k T w' (hm_0.below hb) HT.out
    have hplace := fun w' (hb : Below wr.heap.size wr w') => place_any (k : Int) (-1) w' (hm_0.below hb)
    obtain ⟨fo, hfo⟩ : ∃ fo, formedT P S T = fo := ⟨_, rfl⟩
    obtain ⟨li, hli⟩ : ∃ li, linkedT S k T = li := ⟨_, rfl⟩
    obtain ⟨pl, hpl⟩ : ∃ pl, placeM S (k : Int) (-1) = pl := ⟨_, rfl⟩
    rw [hfo] at hform hok
    simp only [hli] at hlink hok
    simp only [hpl] at hplace
    have HG := Lib.hid hgone; have HPK := Lib.hid hpl; have HOK := Lib.hid hok; have HF := Lib.hid hform; have HL := Lib.hid hlink; have HPL := Lib.hid hplace
    clear hg hgone hok hpk ht9 hform hlink hplace hfo hli hpl hm_0 b0 b1
    have hm_0 := H.out.below hB_0
    have b0 := hm_0.box.c0; have b1 := hm_0.box.c1
    cases fo with
    | false =>
     have hr' : r = false := HBAD.out (by rw [← HOK.out]; rfl)
     subst hr'
     go_wp2_with fail
     refine HG.out.mono ?_
     rintro e w' ⟨rfl, rfl⟩
     go_wp2_with fail
     refine HF.out.mono ?_
     rintro e w2 ⟨rfl, hb2⟩
     go_wp2
     go_ret
     exact ⟨rfl, hB_0.trans (hb2.mono hB_0.size)⟩
    | true =>
     cases li with
     | false =>
      have hr' : r = false := HBAD.out (by rw [← HOK.out]; rfl)
      subst hr'
      go_wp2_with fail
      refine HG.out.mono ?_
      rintro e w' ⟨rfl, rfl⟩
      go_wp2_with fail
      refine HF.out.mono ?_
      rintro e w2 ⟨rfl, hb2⟩
      go_wp2_with fail
      refine (HL.out _ hb2).mono ?_
      rintro e w3 ⟨rfl, hd3⟩
      go_wp2
      go_ret
      exact ⟨rfl, hB_0.trans ((hb2.trans (hd3.below.mono hb2.size)).mono hB_0.size)⟩
     | true =>
      have HSK := Lib.hid (HSTEP.out (by rw [← HOK.out]; rfl))
      go_wp2_with fail
      refine HG.out.mono ?_
      rintro e w' ⟨rfl, rfl⟩
      go_wp2_with fail
      refine HF.out.mono ?_
      rintro e w2 ⟨rfl, hb2⟩
      go_wp2_with fail
      refine (HL.out _ hb2).mono ?_
      rintro e w3 ⟨rfl, hd3⟩
      have hb3 := hb2.trans (hd3.below.mono hb2.size)
      go_wp2_with fail
      refine (HPL.out _ hb3).mono ?_
      rintro e w4 ⟨rfl, rfl⟩
      by_cases hm : pl = -1
      ·subst hm
       go_wp2
       go_roundw
       case rel => exact ⟨k + 1, by omega, by go_num, by rw [ghN_none HPK.out], HSK.out, hB_0.trans (hb3.mono hB_0.size)⟩
       case measure => simp [intOf]; omega
      ·have hd : (pl != -1) = true := by simp [hm]
       have HM := Lib.hid hm; clear hm
       go_wp2
       go_roundw
       case rel => exact ⟨k + 1, by omega, by go_num, by rw [ghN_some (by rw [HPK.out]; exact HM.out)]; go_num, HSK.out, hB_0.trans (hb3.mono hB_0.size)⟩
       case measure => simp [intOf]; omega
  ·obtain rfl : k = S.length := by omega
   rcases HR.out with ⟨-, j, T, hT, hno⟩ | ⟨rfl, -, hbn, hbl, hs, hbs, hbv, hcv⟩
   ·have := HNE.out j T (List.getElem?_eq_some_iff.1 hT).1 hT
    rw [hno] at this; cases this
   ·have hm_0 := H.out.below hB_0
    have hbor := border_any wr hm_0 HP0.out hbn
    have hhl : hs.length = ghN S S.length := by rw [← hbl, hbs, List.length_map]
    rw [hbl] at hbor
    have HBO := Lib.hid hbor; have HHL := Lib.hid hhl; have HBS := Lib.hid hbs; have HBV := Lib.hid hbv; have HCV := Lib.hid hcv
    clear hbor hhl hbs hbv hcv hbn hbl hm_0
    have hgn' : ((ghN S S.length : Int) == (ghN S S.length : Int)) = true := by simp
    go_wp2_with fail
    refine HBO.out.mono ?_
    rintro e w2 ⟨g, c, rfl, hbx, -, -, hb2⟩
    have hnat : NatsIn w2 g hs := by
     intro i v hi
     have := hbx.c i (.int .i64 (v : Int)) (by rw [HBS.out]; unfold intCells; rw [List.getElem?_map, List.getElem?_map, hi]; rfl)
     exact this
    have hcx := convex_any g c _ hs w2 ((H.out.below hB_0).below hb2) HPS.out HHL.out (by omega) hnat HBV.out
    rw [HCV.out] at hcx
    have HCX := Lib.hid hcx
    clear hcx hnat hbx
    go_wp2_with fail
    refine HCX.out.mono ?_
    rintro e w3 ⟨rfl, hb3⟩
    go_wp2
    go_ret
    exact ⟨rfl, hB_0.trans ((hb2.trans (hb3.mono hb2.size)).mono hB_0.size)⟩
end Go.Proofs.Ytecnnpkpgbbfkaa
/- mesh's writers: Drop, Link. -/
namespace Go.MagM
open Go.RowKit
theorem modify_set {α : Type} {l : List α} {i : Nat} {x : α} (h : l[i]? = some x) (f : α → α) : l.modify i f = l.set i (f x) := by
 refine List.ext_getElem? fun j => ?_
 rw [List.getElem?_modify, List.getElem?_set]
 by_cases e : i = j
 ·subst e
  rw [h, if_pos rfl, if_pos (List.getElem?_eq_some_iff.1 h).1]; simp
 ·rw [if_neg e]; simp [e]
/-- Where the cells of a mesh's triangles lie. -/
theorem tri_at {S : List TriM} {t : Nat} {T : TriM} (h : S[t]? = some T) (j : Nat) (hj : j < 9) : (triCells S)[t * 9 + j]? = T.cells[j]? := triCells_get S t j T h hj
theorem tri_n {S : List TriM} {t : Nat} {T : TriM} (h : S[t]? = some T) {i : Nat} (hi : i < 3) : (triCells S)[t * 9 + 3 + i]? = some (.int .i64 (T.n i)) := by
 rw [Nat.add_assoc, tri_at h (3 + i) (by omega)]
 obtain rfl | rfl | rfl : i = 0 ∨ i = 1 ∨ i = 2 := by omega
 all_goals rfl
theorem tri_f {S : List TriM} {t : Nat} {T : TriM} (h : S[t]? = some T) {i : Nat} (hi : i < 3) : (triCells S)[t * 9 + 6 + i]? = some (.bool (T.f i)) := by
 rw [Nat.add_assoc, tri_at h (6 + i) (by omega)]
 obtain rfl | rfl | rfl : i = 0 ∨ i = 1 ∨ i = 2 := by omega
 all_goals rfl
theorem MeshO.slot {p e : TypeId} {w : World} {lo mb pb pc : Nat} {tv : Value} {P : List (Int × Int)} {S : List TriM} (h : MeshO p e w lo mb pb pc tv P S) {t : Nat} {T : TriM} (hT : S[t]? = some T) : ∃ tb c, tv = .slice (some ⟨tb, 0, none⟩) S.length c := by
 obtain ⟨ta, tc, rfl, hr⟩ := h.read
 obtain ⟨b, rfl, -⟩ := hr.tris.get hT
 exact ⟨b, tc, rfl⟩
/-- One half of a link. -/
def half (S : List TriM) (t : Nat) (T : TriM) (i : Nat) (u : Int) (f : Bool) : List TriM := S.set t ((T.setN i u).setF i f)
theorem half_len (S : List TriM) (t : Nat) (T : TriM) (i : Nat) (u : Int) (f : Bool) : (half S t T i u f).length = S.length := by unfold half; simp
theorem linkL_half {S : List TriM} {t u i j : Nat} {T U : TriM} {f : Bool} (hT : S[t]? = some T) (hU : (half S t T i (u : Int) f)[u]? = some U) : linkL S t i u j f = half (half S t T i (u : Int) f) u U j (t : Int) f := by
 unfold linkL
 rw [modify_set hT]
 have : S.set t ((T.setN i (u : Int)).setF i f) = half S t T i (u : Int) f := rfl
 rw [this, modify_set hU]; rfl
/-- What two stores leave. -/
theorem MeshO.half {p e : TypeId} {w : World} {lo mb pb pc g c : Nat} {P : List (Int × Int)} {S : List TriM} (h : MeshO p e w lo mb pb pc (.slice (some ⟨g, 0, none⟩) S.length c) P S) {t i : Nat} (hi : i < 3) {T : TriM} (hT : S[t]? = some T) (u : Int) (f : Bool) :
  MeshO p e ((w.setCell ⟨g, t * 9 + 3 + i, none⟩ (.int .i64 u)).setCell ⟨g, t * 9 + 6 + i, none⟩ (.bool f)) lo mb pb pc (.slice (some ⟨g, 0, none⟩) S.length c) P (half S t T i u f) ∧
  Mut w ((w.setCell ⟨g, t * 9 + 3 + i, none⟩ (.int .i64 u)).setCell ⟨g, t * 9 + 6 + i, none⟩ (.bool f)) mb (.slice (some ⟨g, 0, none⟩) S.length c) (.slice (some ⟨g, 0, none⟩) S.length c) := by
 have hl := (List.getElem?_eq_some_iff.1 hT).1
 have e1 : setL (triCells S) (t * 9 + 3 + i) [.int .i64 u] = triCells (S.set t (T.setN i u)) := by
  show (triCells S).set (t * 9 + 3 + i) _ = _
  rw [Nat.add_assoc]; exact triCells_setN hT i hi u
 obtain ⟨h1, m1⟩ := h.setT (S' := S.set t (T.setN i u)) (t * 9 + 3 + i) [.int .i64 u] (by simp) e1
 have hT2 : (S.set t (T.setN i u))[t]? = some (T.setN i u) := by rw [List.getElem?_set, if_pos rfl, if_pos hl]
 have e2 : setL (triCells (S.set t (T.setN i u))) (t * 9 + 6 + i) [.bool f] = triCells (S.set t ((T.setN i u).setF i f)) := by
  show (triCells (S.set t (T.setN i u))).set (t * 9 + 6 + i) _ = _
  rw [Nat.add_assoc, triCells_setF hT2 i hi f, List.set_set]
 have hlen : (S.set t (T.setN i u)).length = S.length := by simp
 have h1' : MeshO p e (setAll w g (t * 9 + 3 + i) [.int .i64 u]) lo mb pb pc (.slice (some ⟨g, 0, none⟩) (S.set t (T.setN i u)).length c) P (S.set t (T.setN i u)) := by rw [hlen]; exact h1
 obtain ⟨h2, m2⟩ := h1'.setT (S' := S.set t ((T.setN i u).setF i f)) (t * 9 + 6 + i) [.bool f] (by simp) e2
 rw [hlen] at h2 m2
 exact ⟨h2, m1.trans m2⟩
def goneTri : TriM := ⟨-2, -2, -2, -1, -1, -1, false, false, false⟩
end Go.MagM
namespace Go.Proofs.Ytecnnpkpgbbfkaa
open Go.RowKit Go.MagM
set_option maxRecDepth 100000 in
set_option maxHeartbeats 16000000 in
theorem Link_any {lo mb pb pc : Nat} {tv : Value} {P : List (Int × Int)} {S : List TriM} (t i u j : Nat) (f : Bool) (T U : TriM) (w : World) (h : MeshO 62 49 w lo mb pb pc tv P S) (hT : S[t]? = some T) (hgT : goneB T = false) (hi : i < 3) (hU : S[u]? = some U) (hgU : goneB U = false) (hj : j < 3) :
  Calls Try.prog 38 #[.pointer (some ⟨mb, 0, none⟩), .int .i64 (t : Int), .int .i64 (i : Int), .int .i64 (u : Int), .int .i64 (j : Int), .bool f] w fun e w' => e = .returned (.tuple #[]) ∧ MeshO 62 49 w' lo mb pb pc tv P (linkL S t i u j f) ∧ Mut w w' mb tv tv := by
 obtain ⟨ta, tc, htv, hr⟩ := h.read
 have k1 := hasEdge_any (t : Int) (i : Int) w hr
 have k2 := hasEdge_any (u : Int) (j : Int) w hr
 have g1 : hasB S (t : Int) (i : Int) = true := by unfold hasB thereB; rw [getT_nat, hT]; simp [hgT]; omega
 have g2 : hasB S (u : Int) (j : Int) = true := by unfold hasB thereB; rw [getT_nat, hU]; simp [hgU]; omega
 rw [g1] at k1; rw [g2] at k2
 obtain ⟨tb, c, rfl⟩ := h.slot hT
 clear htv hr g1 g2
 obtain ⟨U', hU'⟩ : ∃ U', (half S t T i (u : Int) f)[u]? = some U' := ⟨_, List.getElem?_eq_getElem (by rw [half_len]; exact (List.getElem?_eq_some_iff.1 hU).1)⟩
 have hlk := linkL_half (j := j) hT hU'
 have ltT := (List.getElem?_eq_some_iff.1 hT).1
 have ltU := (List.getElem?_eq_some_iff.1 hU).1
 have hsh := h.short.2
 obtain ⟨len, hlen⟩ : ∃ len, S.length = len := ⟨_, rfl⟩
 have hd := h.drew
 have nT := tri_n hT hi; have fT := tri_f hT hi
 have hbq := owns_box hd.row
 have a1 := hbq.c _ _ nT; have a2 := hbq.f _ _ nT
 have hbq2 := hbq.set (t * 9 + 3 + i) (.int .i64 (u : Int))
 have fT2 : ((triCells S).set (t * 9 + 3 + i) (.int .i64 (u : Int)))[t * 9 + 6 + i]? = some (.bool (T.f i)) := by rw [List.getElem?_set_ne (by omega)]; exact fT
 have a3 := hbq2.c _ _ fT2; have a4 := hbq2.f _ _ fT2
 obtain ⟨ho2, hm2⟩ := hd.half hi hT (u : Int) f
 have hd2 := ho2.drew
 have nU := tri_n hU' hj; have fU := tri_f hU' hj
 have hd2' := hd2
 rw [← half_len S t T i (u : Int) f] at hd2'
 have hbr := owns_box hd2'.row
 have b1 := hbr.c _ _ nU; have b2 := hbr.f _ _ nU
 have hbr2 := hbr.set (u * 9 + 3 + j) (.int .i64 (t : Int))
 have fU2 : ((triCells (half S t T i (u : Int) f)).set (u * 9 + 3 + j) (.int .i64 (t : Int)))[u * 9 + 6 + j]? = some (.bool (U'.f j)) := by rw [List.getElem?_set_ne (by omega)]; exact fU
 have b3 := hbr2.c _ _ fU2; have b4 := hbr2.f _ _ fU2
 obtain ⟨ho3, hm3⟩ := hd2'.half hj hU' (t : Int) f
 have ct := hd.box.c1
 have ct2 := hd2.box.c1
 rw [half_len] at ho3 hm3
 rw [← hlk] at ho3
 have hmA : Mut w w.drew mb (.slice (some ⟨tb, 0, none⟩) S.length c) (.slice (some ⟨tb, 0, none⟩) S.length c) := ⟨rfl, rfl, rfl, Nat.le_refl _, fun _ _ _ h => ⟨rfl, h⟩⟩
 have hmB : ∀ w : World, Mut w w.drew mb (.slice (some ⟨tb, 0, none⟩) S.length c) (.slice (some ⟨tb, 0, none⟩) S.length c) := fun _ => ⟨rfl, rfl, rfl, Nat.le_refl _, fun _ _ _ h => ⟨rfl, h⟩⟩
 have hmall := (hmA.trans hm2).trans ((hmB _).trans hm3)
 rw [hlen] at ct ct2 ltT ltU hsh
 have K1 := Lib.hid k1; have K2 := Lib.hid k2; have HO3 := Lib.hid ho3; have HM := Lib.hid hmall
 have hb1 : (0 : Int) ≤ (t : Int) := by omega
 have hb2 : (t : Int) < (len : Int) := by omega
 have hb3 : (0 : Int) ≤ (u : Int) := by omega
 have hb4 : (u : Int) < (len : Int) := by omega
 have hb5 : (0 : Int) ≤ (i : Int) := by omega
 have hb6 : (i : Int) < 3 := by omega
 have hb7 : (0 : Int) ≤ (j : Int) := by omega
 have hb8 : (j : Int) < 3 := by omega
 have HLEN := Lib.hid hlen
 clear k1 k2 hd nT fT hbq hbq2 fT2 ho2 hm2 hd2 nU fU hbr hbr2 fU2 hd2' ho3 hm3 hmA hmB hmall hT hU hU' hlk h hgT hgU hlen
 go_enter Try.func38, Try.ntmps38
 go_wp2_with fail
 refine K1.out.mono ?_
 rintro e w' ⟨rfl, rfl⟩
 go_wp2_with fail
 refine K2.out.mono ?_
 rintro e w' ⟨rfl, rfl⟩
 go_wp2
 obtain ⟨SSq, hSSq⟩ : ∃ S : Array Bool → World → Prop, ∀ l w', S l w' ↔ ((l.getD 17 true = false → w'.cell? ⟨mb, 1, none⟩ = some (.slice (some ⟨tb, 0, none⟩) len c))) := ⟨_, fun _ _ => Iff.rfl⟩
 refine wp_region_noPanic ?_
 refine wp_region_G SSq 22 #[false, false, false, false, false, false, false, false, false, false, false, false, false, false, false, false, false, false, false, false, false, false] (by kernel_rfl) (by kernel_rfl) (by kernel_rfl) ((hSSq _ _).2 (fun _ => ct)) (fun hCl hHeld => ?_)
 generalize w.drew = w2 at *
 refine rG 0 ?_ ?_ ?_ ?_ ?_ ?_ hCl hHeld ?_;rotate_left 2
 ·simp only [gA,gZ]; exact rfl
 ·intro l w'; rw [hSSq, hSSq]; rw [getD_set_ne (i := 0) (j := 17) true (by decide)]
 ·rfl
 ·intro w' hA;clear hA;go_simp;try with_reducible rfl
 clear hCl hHeld
 intro hCl hHeld
 simp only [List.setIfInBounds_toArray, List.set_cons_zero] at hCl hHeld
 (try simp only [Act.put]);try simp only [sA,sZ,sS]
 refine rG 1 ?_ ?_ ?_ ?_ ?_ ?_ hCl hHeld ?_;rotate_left 2
 ·simp only [gA,gS,gZ]; exact rfl
 ·intro l w'; rw [hSSq, hSSq]; rw [getD_set_ne (i := 1) (j := 17) true (by decide)]
 ·rfl
 ·intro w' hA;clear hA;go_simp;try with_reducible rfl
 clear hCl hHeld
 intro hCl hHeld
 simp only [sA,sZ,sS] at hCl hHeld
 (try simp only [Act.put]);try simp only [sA,sZ,sS]
 refine rG 2 ?_ ?_ ?_ ?_ ?_ ?_ hCl hHeld ?_;rotate_left 2
 ·simp only [gA,gS,gZ]; exact rfl
 ·intro l w'; rw [hSSq, hSSq]; rw [getD_set_ne (i := 2) (j := 17) true (by decide)]
 ·rfl
 ·intro w' hA;clear hA;go_simp;try with_reducible rfl
 clear hCl hHeld
 intro hCl hHeld
 simp only [sA,sZ,sS] at hCl hHeld
 (try simp only [Act.put]);try simp only [sA,sZ,sS]
 refine rG 3 ?_ ?_ ?_ ?_ ?_ ?_ hCl hHeld ?_;rotate_left 2
 ·simp only [gA,gS,gZ]; exact rfl
 ·intro l w'; rw [hSSq, hSSq]; rw [getD_set_ne (i := 3) (j := 17) true (by decide)]
 ·rfl
 ·intro w' hA; obtain ⟨l, hl, hi, hSl⟩ := hA; have hSl := (hSSq _ _).1 hSl; have hy0 := hSl; have hz0 := hy0 (hl.not (t := 17) (by kernel_rfl) hi); go_simp; try with_reducible rfl
 clear hCl hHeld
 intro hCl hHeld
 simp only [sA,sZ,sS] at hCl hHeld
 (try simp only [Act.put]);try simp only [sA,sZ,sS]
 refine rG 4 ?_ ?_ ?_ ?_ ?_ ?_ hCl hHeld ?_;rotate_left 2
 ·simp only [gA,gS,gZ]; exact rfl
 ·intro l w'; rw [hSSq, hSSq]; rw [getD_set_ne (i := 4) (j := 17) true (by decide)]
 ·rfl
 ·intro w' hA;clear hA;go_simp;try with_reducible rfl
 clear hCl hHeld
 intro hCl hHeld
 simp only [sA,sZ,sS] at hCl hHeld
 (try simp only [Act.put]);try simp only [sA,sZ,sS]
 refine rG 5 ?_ ?_ ?_ ?_ ?_ ?_ hCl hHeld ?_;rotate_left 2
 ·simp only [gA,gS,gZ]; exact rfl
 ·intro l w'; rw [hSSq, hSSq]; rw [getD_set_ne (i := 5) (j := 17) true (by decide)]
 ·rfl
 ·intro w' hA;clear hA;go_simp;try with_reducible rfl
 clear hCl hHeld
 intro hCl hHeld
 simp only [sA,sZ,sS] at hCl hHeld
 (try simp only [Act.put]);try simp only [sA,sZ,sS]
 refine rG 6 ?_ ?_ ?_ ?_ ?_ ?_ hCl hHeld ?_;rotate_left 2
 ·simp only [gA,gS,gZ]; exact rfl
 ·intro l w'; rw [hSSq, hSSq]; rw [getD_set_ne (i := 6) (j := 17) true (by decide)]
 ·rfl
 ·intro w' hA;clear hA;go_simp;try with_reducible rfl
 clear hCl hHeld
 intro hCl hHeld
 simp only [sA,sZ,sS] at hCl hHeld
 (try simp only [Act.put]);try simp only [sA,sZ,sS]
 refine rG 7 ?_ ?_ ?_ ?_ ?_ ?_ hCl hHeld ?_;rotate_left 2
 ·simp only [gA,gS,gZ]; exact rfl
 ·intro l w'; rw [hSSq, hSSq]; rw [getD_set_ne (i := 7) (j := 17) true (by decide)]
 ·rfl
 ·intro w' hA;clear hA;go_simp;try with_reducible rfl
 clear hCl hHeld
 intro hCl hHeld
 simp only [sA,sZ,sS] at hCl hHeld
 (try simp only [Act.put]);try simp only [sA,sZ,sS]
 refine rG 8 ?_ ?_ ?_ ?_ ?_ ?_ hCl hHeld ?_;rotate_left 2
 ·simp only [gA,gS,gZ]; exact rfl
 ·intro l w'; rw [hSSq, hSSq]; rw [getD_set_ne (i := 8) (j := 17) true (by decide)]
 ·rfl
 ·intro w' hA;clear hA;go_simp;try with_reducible rfl
 clear hCl hHeld
 intro hCl hHeld
 simp only [sA,sZ,sS] at hCl hHeld
 (try simp only [Act.put]);try simp only [sA,sZ,sS]
 refine rG 9 ?_ ?_ ?_ ?_ ?_ ?_ hCl hHeld ?_;rotate_left 2
 ·simp only [gA,gS,gZ]; exact rfl
 ·intro l w'; rw [hSSq, hSSq]; rw [getD_set_ne (i := 9) (j := 17) true (by decide)]
 ·rfl
 ·intro w' hA; obtain ⟨l, hl, hi, hSl⟩ := hA; have hSl := (hSSq _ _).1 hSl; have hy0 := hSl; have hz0 := hy0 (hl.not (t := 17) (by kernel_rfl) hi); go_simp; try with_reducible rfl
 clear hCl hHeld
 intro hCl hHeld
 simp only [sA,sZ,sS] at hCl hHeld
 (try simp only [Act.put]);try simp only [sA,sZ,sS]
 refine rG 10 ?_ ?_ ?_ ?_ ?_ ?_ hCl hHeld ?_;rotate_left 2
 ·simp only [gA,gS,gZ]; exact rfl
 ·intro l w'; rw [hSSq, hSSq]; rw [getD_set_ne (i := 10) (j := 17) true (by decide)]
 ·rfl
 ·intro w' hA;clear hA;go_simp;try with_reducible rfl
 clear hCl hHeld
 intro hCl hHeld
 simp only [sA,sZ,sS] at hCl hHeld
 (try simp only [Act.put]);try simp only [sA,sZ,sS]
 refine rG 11 ?_ ?_ ?_ ?_ ?_ ?_ hCl hHeld ?_;rotate_left 2
 ·simp only [gA,gS,gZ]; exact rfl
 ·intro l w'; rw [hSSq, hSSq]; rw [getD_set_ne (i := 11) (j := 17) true (by decide)]
 ·rfl
 ·intro w' hA;clear hA;go_simp;try with_reducible rfl
 clear hCl hHeld
 intro hCl hHeld
 simp only [sA,sZ,sS] at hCl hHeld
 (try simp only [Act.put]);try simp only [sA,sZ,sS]
 refine rG 12 ?_ ?_ ?_ ?_ ?_ ?_ hCl hHeld ?_;rotate_left 2
 ·simp only [gA,gS,gZ]; exact rfl
 ·intro l w'; rw [hSSq, hSSq]; rw [getD_set_ne (i := 12) (j := 17) true (by decide)]
 ·rfl
 ·intro w' hA;clear hA;go_simp;try with_reducible rfl
 clear hCl hHeld
 intro hCl hHeld
 simp only [sA,sZ,sS] at hCl hHeld
 (try simp only [Act.put]);try simp only [sA,sZ,sS]
 refine rG 13 ?_ ?_ ?_ ?_ ?_ ?_ hCl hHeld ?_;rotate_left 2
 ·simp only [gA,gS,gZ]; exact rfl
 ·intro l w'; rw [hSSq, hSSq]; rw [getD_set_ne (i := 13) (j := 17) true (by decide)]
 ·rfl
 ·intro w' hA;clear hA;go_simp;try with_reducible rfl
 clear hCl hHeld
 intro hCl hHeld
 simp only [sA,sZ,sS] at hCl hHeld
 (try simp only [Act.put]);try simp only [sA,sZ,sS]
 refine rG 14 ?_ ?_ ?_ ?_ ?_ ?_ hCl hHeld ?_;rotate_left 2
 ·simp only [gA,gS,gZ]; exact rfl
 ·intro l w'; rw [hSSq, hSSq]; rw [getD_set_ne (i := 14) (j := 17) true (by decide)]
 ·rfl
 ·intro w' hA;clear hA;go_simp;try with_reducible rfl
 clear hCl hHeld
 intro hCl hHeld
 simp only [sA,sZ,sS] at hCl hHeld
 (try simp only [Act.put]);try simp only [sA,sZ,sS]
 refine rG 15 ?_ ?_ ?_ ?_ ?_ ?_ hCl hHeld ?_;rotate_left 2
 ·simp only [gA,gS,gZ]; exact rfl
 ·intro l w'; rw [hSSq, hSSq]; rw [getD_set_ne (i := 15) (j := 17) true (by decide)]
 ·rfl
 ·intro w' hA;clear hA;go_simp;try with_reducible rfl
 clear hCl hHeld
 intro hCl hHeld
 simp only [sA,sZ,sS] at hCl hHeld
 (try simp only [Act.put]);try simp only [sA,sZ,sS]
 refine rG 16 ?_ ?_ ?_ ?_ ?_ ?_ hCl hHeld ?_;rotate_left 2
 ·simp only [gA,gS,gZ]; exact rfl
 ·intro l w'; rw [hSSq, hSSq]; rw [getD_set_ne (i := 16) (j := 17) true (by decide)]
 ·rfl
 ·intro w' hA;clear hA;go_simp;try with_reducible rfl
 clear hCl hHeld
 intro hCl hHeld
 simp only [sA,sZ,sS] at hCl hHeld
 (try simp only [Act.put]);try simp only [sA,sZ,sS]
 refine rG 18 ?_ ?_ ?_ ?_ ?_ ?_ hCl hHeld ?_;rotate_left 2
 ·simp only [gA,gS,gZ]; exact rfl
 ·intro l w'; rw [hSSq, hSSq]; rw [getD_set_ne (i := 18) (j := 17) true (by decide)]
 ·rfl
 ·intro w' hA;clear hA;go_simp;try with_reducible rfl
 clear hCl hHeld
 intro hCl hHeld
 simp only [sA,sZ,sS] at hCl hHeld
 (try simp only [Act.put]);try simp only [sA,sZ,sS]
 refine rG 19 ?_ ?_ ?_ ?_ ?_ ?_ hCl hHeld ?_;rotate_left 2
 ·simp only [gA,gS,gZ]; exact rfl
 ·intro l w'; rw [hSSq, hSSq]; rw [getD_set_ne (i := 19) (j := 17) true (by decide)]
 ·rfl
 ·intro w' hA;clear hA;go_simp;try with_reducible rfl
 clear hCl hHeld
 intro hCl hHeld
 simp only [sA,sZ,sS] at hCl hHeld
 (try simp only [Act.put]);try simp only [sA,sZ,sS]
 clear hCl hHeld
 refine reg_callG 17 ?_ (by kernel_rfl) ?_ (fun K hK => ?_);rotate_left 1
 ·simp only [gA,gS,gZ]; exact rfl
 go_simp
 refine hK.out _ _ ((hSSq _ _).2 (fun h => absurd h (by decide))) ?_
 clear hK K
 (try simp only [Act.put]);try simp only [sA,sZ,sS]
 refine reg_callG 20 ?_ (by kernel_rfl) ?_ (fun K hK => ?_);rotate_left 1
 ·simp only [gA,gS,gZ]; exact rfl
 go_simp
 refine hK.out _ _ ((hSSq _ _).2 (fun h => absurd h (by decide))) ?_
 clear hK K
 (try simp only [Act.put]);try simp only [sA,sZ,sS]
 refine reg_callG 21 ?_ (by kernel_rfl) ?_ (fun K hK => ?_);rotate_left 1
 ·simp only [gA,gS,gZ]; exact rfl
 go_simp
 refine hK.out _ _ ((hSSq _ _).2 (fun h => absurd h (by decide))) ?_
 clear hK K
 (try simp only [Act.put]);try simp only [sA,sZ,sS]
 refine wpAnyG_done (by kernel_rfl) ?_ _
 refine NoPanic.normal ?_
 clear hSSq SSq
 clear a1 a2 a3 a4 ct
 go_wp2
 obtain ⟨SSr, hSSr⟩ : ∃ S : Array Bool → World → Prop, ∀ l w', S l w' ↔ ((l.getD 17 true = false → w'.cell? ⟨mb, 1, none⟩ = some (.slice (some ⟨tb, 0, none⟩) len c))) := ⟨_, fun _ _ => Iff.rfl⟩
 refine wp_region_noPanic ?_
 refine wp_region_G SSr 22 #[false, false, false, false, false, false, false, false, false, false, false, false, false, false, false, false, false, false, false, false, false, false] (by kernel_rfl) (by kernel_rfl) (by kernel_rfl) ((hSSr _ _).2 (fun _ => ct2)) (fun hCl hHeld => ?_)
 generalize ((w2.setCell ⟨tb, t * 9 + 3 + i, none⟩ (.int .i64 (u : Int))).setCell ⟨tb, t * 9 + 6 + i, none⟩ (.bool f)).drew = w5 at *
 refine rG 0 ?_ ?_ ?_ ?_ ?_ ?_ hCl hHeld ?_;rotate_left 2
 ·simp only [gA,gZ]; exact rfl
 ·intro l w'; rw [hSSr, hSSr]; rw [getD_set_ne (i := 0) (j := 17) true (by decide)]
 ·rfl
 ·intro w' hA;clear hA;go_simp;try with_reducible rfl
 clear hCl hHeld
 intro hCl hHeld
 simp only [List.setIfInBounds_toArray, List.set_cons_zero] at hCl hHeld
 (try simp only [Act.put]);try simp only [sA,sZ,sS]
 refine rG 1 ?_ ?_ ?_ ?_ ?_ ?_ hCl hHeld ?_;rotate_left 2
 ·simp only [gA,gS,gZ]; exact rfl
 ·intro l w'; rw [hSSr, hSSr]; rw [getD_set_ne (i := 1) (j := 17) true (by decide)]
 ·rfl
 ·intro w' hA;clear hA;go_simp;try with_reducible rfl
 clear hCl hHeld
 intro hCl hHeld
 simp only [sA,sZ,sS] at hCl hHeld
 (try simp only [Act.put]);try simp only [sA,sZ,sS]
 refine rG 2 ?_ ?_ ?_ ?_ ?_ ?_ hCl hHeld ?_;rotate_left 2
 ·simp only [gA,gS,gZ]; exact rfl
 ·intro l w'; rw [hSSr, hSSr]; rw [getD_set_ne (i := 2) (j := 17) true (by decide)]
 ·rfl
 ·intro w' hA;clear hA;go_simp;try with_reducible rfl
 clear hCl hHeld
 intro hCl hHeld
 simp only [sA,sZ,sS] at hCl hHeld
 (try simp only [Act.put]);try simp only [sA,sZ,sS]
 refine rG 3 ?_ ?_ ?_ ?_ ?_ ?_ hCl hHeld ?_;rotate_left 2
 ·simp only [gA,gS,gZ]; exact rfl
 ·intro l w'; rw [hSSr, hSSr]; rw [getD_set_ne (i := 3) (j := 17) true (by decide)]
 ·rfl
 ·intro w' hA; obtain ⟨l, hl, hi, hSl⟩ := hA; have hSl := (hSSr _ _).1 hSl; have hy0 := hSl; have hz0 := hy0 (hl.not (t := 17) (by kernel_rfl) hi); go_simp; try with_reducible rfl
 clear hCl hHeld
 intro hCl hHeld
 simp only [sA,sZ,sS] at hCl hHeld
 (try simp only [Act.put]);try simp only [sA,sZ,sS]
 refine rG 4 ?_ ?_ ?_ ?_ ?_ ?_ hCl hHeld ?_;rotate_left 2
 ·simp only [gA,gS,gZ]; exact rfl
 ·intro l w'; rw [hSSr, hSSr]; rw [getD_set_ne (i := 4) (j := 17) true (by decide)]
 ·rfl
 ·intro w' hA;clear hA;go_simp;try with_reducible rfl
 clear hCl hHeld
 intro hCl hHeld
 simp only [sA,sZ,sS] at hCl hHeld
 (try simp only [Act.put]);try simp only [sA,sZ,sS]
 refine rG 5 ?_ ?_ ?_ ?_ ?_ ?_ hCl hHeld ?_;rotate_left 2
 ·simp only [gA,gS,gZ]; exact rfl
 ·intro l w'; rw [hSSr, hSSr]; rw [getD_set_ne (i := 5) (j := 17) true (by decide)]
 ·rfl
 ·intro w' hA;clear hA;go_simp;try with_reducible rfl
 clear hCl hHeld
 intro hCl hHeld
 simp only [sA,sZ,sS] at hCl hHeld
 (try simp only [Act.put]);try simp only [sA,sZ,sS]
 refine rG 6 ?_ ?_ ?_ ?_ ?_ ?_ hCl hHeld ?_;rotate_left 2
 ·simp only [gA,gS,gZ]; exact rfl
 ·intro l w'; rw [hSSr, hSSr]; rw [getD_set_ne (i := 6) (j := 17) true (by decide)]
 ·rfl
 ·intro w' hA;clear hA;go_simp;try with_reducible rfl
 clear hCl hHeld
 intro hCl hHeld
 simp only [sA,sZ,sS] at hCl hHeld
 (try simp only [Act.put]);try simp only [sA,sZ,sS]
 refine rG 7 ?_ ?_ ?_ ?_ ?_ ?_ hCl hHeld ?_;rotate_left 2
 ·simp only [gA,gS,gZ]; exact rfl
 ·intro l w'; rw [hSSr, hSSr]; rw [getD_set_ne (i := 7) (j := 17) true (by decide)]
 ·rfl
 ·intro w' hA;clear hA;go_simp;try with_reducible rfl
 clear hCl hHeld
 intro hCl hHeld
 simp only [sA,sZ,sS] at hCl hHeld
 (try simp only [Act.put]);try simp only [sA,sZ,sS]
 refine rG 8 ?_ ?_ ?_ ?_ ?_ ?_ hCl hHeld ?_;rotate_left 2
 ·simp only [gA,gS,gZ]; exact rfl
 ·intro l w'; rw [hSSr, hSSr]; rw [getD_set_ne (i := 8) (j := 17) true (by decide)]
 ·rfl
 ·intro w' hA;clear hA;go_simp;try with_reducible rfl
 clear hCl hHeld
 intro hCl hHeld
 simp only [sA,sZ,sS] at hCl hHeld
 (try simp only [Act.put]);try simp only [sA,sZ,sS]
 refine rG 9 ?_ ?_ ?_ ?_ ?_ ?_ hCl hHeld ?_;rotate_left 2
 ·simp only [gA,gS,gZ]; exact rfl
 ·intro l w'; rw [hSSr, hSSr]; rw [getD_set_ne (i := 9) (j := 17) true (by decide)]
 ·rfl
 ·intro w' hA; obtain ⟨l, hl, hi, hSl⟩ := hA; have hSl := (hSSr _ _).1 hSl; have hy0 := hSl; have hz0 := hy0 (hl.not (t := 17) (by kernel_rfl) hi); go_simp; try with_reducible rfl
 clear hCl hHeld
 intro hCl hHeld
 simp only [sA,sZ,sS] at hCl hHeld
 (try simp only [Act.put]);try simp only [sA,sZ,sS]
 refine rG 10 ?_ ?_ ?_ ?_ ?_ ?_ hCl hHeld ?_;rotate_left 2
 ·simp only [gA,gS,gZ]; exact rfl
 ·intro l w'; rw [hSSr, hSSr]; rw [getD_set_ne (i := 10) (j := 17) true (by decide)]
 ·rfl
 ·intro w' hA;clear hA;go_simp;try with_reducible rfl
 clear hCl hHeld
 intro hCl hHeld
 simp only [sA,sZ,sS] at hCl hHeld
 (try simp only [Act.put]);try simp only [sA,sZ,sS]
 refine rG 11 ?_ ?_ ?_ ?_ ?_ ?_ hCl hHeld ?_;rotate_left 2
 ·simp only [gA,gS,gZ]; exact rfl
 ·intro l w'; rw [hSSr, hSSr]; rw [getD_set_ne (i := 11) (j := 17) true (by decide)]
 ·rfl
 ·intro w' hA;clear hA;go_simp;try with_reducible rfl
 clear hCl hHeld
 intro hCl hHeld
 simp only [sA,sZ,sS] at hCl hHeld
 (try simp only [Act.put]);try simp only [sA,sZ,sS]
 refine rG 12 ?_ ?_ ?_ ?_ ?_ ?_ hCl hHeld ?_;rotate_left 2
 ·simp only [gA,gS,gZ]; exact rfl
 ·intro l w'; rw [hSSr, hSSr]; rw [getD_set_ne (i := 12) (j := 17) true (by decide)]
 ·rfl
 ·intro w' hA;clear hA;go_simp;try with_reducible rfl
 clear hCl hHeld
 intro hCl hHeld
 simp only [sA,sZ,sS] at hCl hHeld
 (try simp only [Act.put]);try simp only [sA,sZ,sS]
 refine rG 13 ?_ ?_ ?_ ?_ ?_ ?_ hCl hHeld ?_;rotate_left 2
 ·simp only [gA,gS,gZ]; exact rfl
 ·intro l w'; rw [hSSr, hSSr]; rw [getD_set_ne (i := 13) (j := 17) true (by decide)]
 ·rfl
 ·intro w' hA;clear hA;go_simp;try with_reducible rfl
 clear hCl hHeld
 intro hCl hHeld
 simp only [sA,sZ,sS] at hCl hHeld
 (try simp only [Act.put]);try simp only [sA,sZ,sS]
 refine rG 14 ?_ ?_ ?_ ?_ ?_ ?_ hCl hHeld ?_;rotate_left 2
 ·simp only [gA,gS,gZ]; exact rfl
 ·intro l w'; rw [hSSr, hSSr]; rw [getD_set_ne (i := 14) (j := 17) true (by decide)]
 ·rfl
 ·intro w' hA;clear hA;go_simp;try with_reducible rfl
 clear hCl hHeld
 intro hCl hHeld
 simp only [sA,sZ,sS] at hCl hHeld
 (try simp only [Act.put]);try simp only [sA,sZ,sS]
 refine rG 15 ?_ ?_ ?_ ?_ ?_ ?_ hCl hHeld ?_;rotate_left 2
 ·simp only [gA,gS,gZ]; exact rfl
 ·intro l w'; rw [hSSr, hSSr]; rw [getD_set_ne (i := 15) (j := 17) true (by decide)]
 ·rfl
 ·intro w' hA;clear hA;go_simp;try with_reducible rfl
 clear hCl hHeld
 intro hCl hHeld
 simp only [sA,sZ,sS] at hCl hHeld
 (try simp only [Act.put]);try simp only [sA,sZ,sS]
 refine rG 16 ?_ ?_ ?_ ?_ ?_ ?_ hCl hHeld ?_;rotate_left 2
 ·simp only [gA,gS,gZ]; exact rfl
 ·intro l w'; rw [hSSr, hSSr]; rw [getD_set_ne (i := 16) (j := 17) true (by decide)]
 ·rfl
 ·intro w' hA;clear hA;go_simp;try with_reducible rfl
 clear hCl hHeld
 intro hCl hHeld
 simp only [sA,sZ,sS] at hCl hHeld
 (try simp only [Act.put]);try simp only [sA,sZ,sS]
 refine rG 18 ?_ ?_ ?_ ?_ ?_ ?_ hCl hHeld ?_;rotate_left 2
 ·simp only [gA,gS,gZ]; exact rfl
 ·intro l w'; rw [hSSr, hSSr]; rw [getD_set_ne (i := 18) (j := 17) true (by decide)]
 ·rfl
 ·intro w' hA;clear hA;go_simp;try with_reducible rfl
 clear hCl hHeld
 intro hCl hHeld
 simp only [sA,sZ,sS] at hCl hHeld
 (try simp only [Act.put]);try simp only [sA,sZ,sS]
 refine rG 19 ?_ ?_ ?_ ?_ ?_ ?_ hCl hHeld ?_;rotate_left 2
 ·simp only [gA,gS,gZ]; exact rfl
 ·intro l w'; rw [hSSr, hSSr]; rw [getD_set_ne (i := 19) (j := 17) true (by decide)]
 ·rfl
 ·intro w' hA;clear hA;go_simp;try with_reducible rfl
 clear hCl hHeld
 intro hCl hHeld
 simp only [sA,sZ,sS] at hCl hHeld
 (try simp only [Act.put]);try simp only [sA,sZ,sS]
 clear hCl hHeld
 refine reg_callG 17 ?_ (by kernel_rfl) ?_ (fun K hK => ?_);rotate_left 1
 ·simp only [gA,gS,gZ]; exact rfl
 go_simp
 refine hK.out _ _ ((hSSr _ _).2 (fun h => absurd h (by decide))) ?_
 clear hK K
 (try simp only [Act.put]);try simp only [sA,sZ,sS]
 refine reg_callG 20 ?_ (by kernel_rfl) ?_ (fun K hK => ?_);rotate_left 1
 ·simp only [gA,gS,gZ]; exact rfl
 go_simp
 refine hK.out _ _ ((hSSr _ _).2 (fun h => absurd h (by decide))) ?_
 clear hK K
 (try simp only [Act.put]);try simp only [sA,sZ,sS]
 refine reg_callG 21 ?_ (by kernel_rfl) ?_ (fun K hK => ?_);rotate_left 1
 ·simp only [gA,gS,gZ]; exact rfl
 go_simp
 refine hK.out _ _ ((hSSr _ _).2 (fun h => absurd h (by decide))) ?_
 clear hK K
 (try simp only [Act.put]);try simp only [sA,sZ,sS]
 refine wpAnyG_done (by kernel_rfl) ?_ _
 refine NoPanic.normal ?_
 clear hSSr SSr
 go_wp2
 go_end0
 exact ⟨rfl, HO3.out, HM.out⟩
set_option maxRecDepth 100000 in
set_option maxHeartbeats 16000000 in
theorem Drop_any {lo mb pb pc : Nat} {tv : Value} {P : List (Int × Int)} {S : List TriM} (t : Nat) (T : TriM) (w : World) (h : MeshO 62 49 w lo mb pb pc tv P S) (hT : S[t]? = some T) (hgT : goneB T = false) :
  Calls Try.prog 39 #[.pointer (some ⟨mb, 0, none⟩), .int .i64 (t : Int)] w fun e w' => e = .returned (.tuple #[]) ∧ MeshO 62 49 w' lo mb pb pc tv P (S.set t goneTri) ∧ Mut w w' mb tv tv := by
 obtain ⟨ta, tc, htv, hr⟩ := h.read
 have k1 := there_any (t : Int) w hr
 have g1 : thereB S (t : Int) = true := by unfold thereB; rw [getT_nat, hT]; simp [hgT]
 rw [g1] at k1
 obtain ⟨tb, c, rfl⟩ := h.slot hT
 have ltT := (List.getElem?_eq_some_iff.1 hT).1
 have hsh := h.short.2
 obtain ⟨ho, hm⟩ := h.setT (S' := S.set t goneTri) (t * 9) goneTri.cells (by simp) (setL_tri ltT goneTri)
 have hbx := owns_box h.row
 have hlx : t * 9 + goneTri.cells.length ≤ (triCells S).length := by rw [triCells_len, goneTri.cells_len]; omega
 have ct := h.box.c1
 obtain ⟨len, hlen⟩ : ∃ len, S.length = len := ⟨_, rfl⟩
 rw [hlen] at ct ltT
 obtain ⟨wn, hwn⟩ : ∃ wn, setAll w tb (t * 9) goneTri.cells = wn := ⟨_, rfl⟩
 rw [hwn] at ho hm
 have K1 := Lib.hid k1; have HO := Lib.hid ho; have HM := Lib.hid hm; have HBX := Lib.hid hbx; have HLX := Lib.hid hlx; have HWN := Lib.hid hwn
 have hb1 : (0 : Int) ≤ (t : Int) := by omega
 have hb2 : (t : Int) < (len : Int) := by omega
 clear k1 g1 ho hm hbx hlx hwn htv hr h hT hgT hlen hsh
 go_enter Try.func39, Try.ntmps39
 go_wp2_with fail
 refine K1.out.mono ?_
 rintro e w' ⟨rfl, rfl⟩
 go_wp2_with (with_reducible refine wpList_store_box rfl _ _ _ rfl goneTri.cells HBX.out rfl rfl (by kernel_rfl) HLX.out rfl HWN.out ?_)
 go_end0
 exact ⟨rfl, HO.out, HM.out⟩
end Go.Proofs.Ytecnnpkpgbbfkaa
/- mesh's writers: Make. -/
namespace Go.MagM
open Go.RowKit
def newT (a b c : Int) : TriM := ⟨a, b, c, -1, -1, -1, false, false, false⟩
/-- The first triangle that is gone. -/
def freeK (S : List TriM) : Option Nat := S.findIdx? goneB
def makeK (S : List TriM) : Nat := match freeK S with
 | some k => k
 | none => S.length
def makeM (S : List TriM) (a b c : Int) : List TriM := match freeK S with
 | some k => S.set k (newT a b c)
 | none => S ++ [newT a b c]
section
variable {P : Program}
/-- append: some slice comes, in the block where the first one lay, or in a new one. -/
theorem run_append_where (w : World) (base : Nat) (t ty e : TypeId) (i : TypeInfo) (z : Value) (size bytes : Nat) (ht : P.underlying t = some (.slice e)) (hi : P.info? e = some i) (hz : i.zero = some z)
  (hsize : i.size = size) (hby : i.bytes = bytes) (hzs : z.cells.size = size)
  (v : Value) (n : Nat) (xs : List Value) (hrow : w.ownsRow base e size v n xs)
  (a : Addr) (m c : Nat) (news : List Value) (hm0 : 0 < m) (hl : news.length = m * size) (hnews : ∀ j u, news[j]? = some u → w.cell? (a.add j) = some u) (h1 : ∀ u ∈ news, u.oneCell' = true)
  (h63 : n + m ≤ maxLen) (hbytes : (n + m) * bytes ≤ 140737488355328) (hbase : base ≤ w.heap.size) :
  ∃ v' w', (Builtin.append_ #[t, t] ty #[v, .slice (some a) m c]).run P w = .ok v' w' ∧ w'.ownsRow base e size v' (n + m) (xs ++ news) ∧ w.grownBy w' v.ownBlock ∧ (v'.ownBlock = v.ownBlock ∨ ∀ k, v'.ownBlock = some k → w.heap.size ≤ k) := by
 subst hsize
 subst hby
 have hlen : (xs ++ news).length = (n + m) * i.size := by rw [List.length_append, hrow.1, hl, Nat.add_mul]
 have grown : ∀ (old : Nat), old < n + m → ∀ (row : Option Nat),
   (w.drew.alloc (.cells (xs.toArray ++ news.toArray ++ Builtin.zeroCells z.cells (grownCap w (n + m) old e - (n + m))) e)).ownsRow base e i.size
    (.slice (some ⟨w.heap.size, 0, none⟩) (n + m) (grownCap w (n + m) old e)) (n + m) (xs ++ news) ∧
   w.grownBy (w.drew.alloc (.cells (xs.toArray ++ news.toArray ++ Builtin.zeroCells z.cells (grownCap w (n + m) old e - (n + m))) e)) row := by
  intro old ho row
  have hge := grownCap_ge w (n + m) old e
  have hcm : grownCap w (n + m) old e ≤ maxLen := grownCap_le_maxLen w (n + m) old e h63
  refine ⟨⟨hlen, .inr ⟨w.heap.size, _, _, rfl, hbase, heap_alloc_new w.drew _, hge, hcm, ?_, ?_⟩⟩, ⟨rfl, rfl, rfl, by simp, fun k hk _ => Below.heap_alloc w.drew _ k hk⟩⟩
  ·simp only [Array.size_append, List.size_toArray, size_zeroCells, hzs, hrow.1, hl, ← Nat.add_mul]
   congr 1
   omega
  ·simp only [Array.toList_append, List.append_assoc]
   rw [← List.append_assoc, ← hlen]
   exact List.take_left
 have hrow' := hrow
 rcases hrow.2 with ⟨rfl, rfl⟩ | ⟨g, cap, cur, rfl, hbg, hg, hnc, hcm, hcs, htake⟩
 ·have hx : xs = [] := List.eq_nil_of_length_eq_zero (by simpa using hrow.1)
  subst hx
  have hr := run_append_nil (P := P) w t ty e i z ht hi hz a m c news hl hnews hm0 (by simp only [maxLen] at h63; omega) (by have hb := hbytes; simp only [Nat.zero_add] at hb; omega)
  have hgr := grown 0 (by omega) (Value.ownBlock (.slice none 0 0))
  simp only [Nat.zero_add, List.nil_append, Array.empty_append] at hgr ⊢
  exact ⟨_, _, hr, hgr.1, hgr.2, .inr fun k hk => by simp [Value.ownBlock] at hk; omega⟩
 ·by_cases hroom : n + m ≤ cap
  ·have hfit : n * i.size + news.length ≤ cur.size := by rw [hl, hcs, ← Nat.add_mul]; exact Nat.mul_le_mul_right _ hroom
   have hr := run_append_room (P := P) w t ty e i ht hi g n cap cur hg a m c news hl hnews h1 hroom hfit
   refine ⟨_, _, hr, ⟨hlen, .inr ⟨g, cap, _, rfl, hbg, setRow_heap w g cur _ e _ hg, hroom, hcm, ?_, ?_⟩⟩, ⟨rfl, rfl, rfl, by simp, fun k _ hk => setRow_other w g k _ (fun e => hk (by simp [Value.ownBlock, e]))⟩, .inl rfl⟩
   ·simp only [List.size_toArray, List.length_append, List.length_take, List.length_drop, Array.length_toList]
    omega
   ·rw [htake, ← hlen]
    exact List.take_left
  ·have holds : ∀ j u, xs[j]? = some u → w.cell? ((⟨g, 0, none⟩ : Addr).add j) = some u := hrow'.cells (g := g) rfl
   have hr := run_append_grow (P := P) w t ty e i z ht hi hz ⟨g, 0, none⟩ n cap xs hrow'.1 holds a m c news hl hnews (by omega) (by simp only [maxLen] at h63; omega) (growslice_fits (by omega) hbytes)
   have hgr := grown cap (by omega) (Value.ownBlock (.slice (some ⟨g, 0, none⟩) n cap))
   exact ⟨_, _, hr, hgr.1, hgr.2, .inr fun k hk => by simp [Value.ownBlock] at hk; omega⟩
end
theorem Box.nine {w : World} {g : Nat} {u0 u1 u2 u3 u4 u5 u6 u7 u8 : Value} (h : Box w g [u0, u1, u2, u3, u4, u5, u6, u7, u8]) : w.cell? ⟨g, 0, none⟩ = some u0 ∧ w.cell? ⟨g, 1, none⟩ = some u1 ∧ w.cell? ⟨g, 2, none⟩ = some u2 ∧ w.cell? ⟨g, 3, none⟩ = some u3 ∧ w.cell? ⟨g, 4, none⟩ = some u4 ∧ w.cell? ⟨g, 5, none⟩ = some u5 ∧ w.cell? ⟨g, 6, none⟩ = some u6 ∧ w.cell? ⟨g, 7, none⟩ = some u7 ∧ w.cell? ⟨g, 8, none⟩ = some u8 :=
 ⟨h.c 0 _ rfl, h.c 1 _ rfl, h.c 2 _ rfl, h.c 3 _ rfl, h.c 4 _ rfl, h.c 5 _ rfl, h.c 6 _ rfl, h.c 7 _ rfl, h.c 8 _ rfl⟩
theorem Mut.drew {w w' : World} {mb : Nat} {tv tv' : Value} (h : Mut w w' mb tv tv') : Mut w w'.drew mb tv tv' := ⟨h.os, h.tape, h.output, h.size, h.keep⟩
theorem triCells_one' (T : TriM) : ∀ u ∈ T.cells, u.oneCell' = true := by
 intro u hu
 simp [TriM.cells] at hu
 rcases hu with rfl | rfl | rfl | rfl | rfl | rfl | rfl | rfl | rfl <;> rfl
end Go.MagM
namespace Go.Proofs.Ytecnnpkpgbbfkaa
open Go.RowKit Go.MagM
theorem infoT : (Try.prog.info? 49).map (fun i => (i.zero, i.size, i.bytes)) = some (some (.agg #[.int .i64 0, .int .i64 0, .int .i64 0, .int .i64 0, .int .i64 0, .int .i64 0, .bool false, .bool false, .bool false]), 9, 56) := by kernel_rfl
/-- What an append of one triangle leaves, once the mesh knows of it. -/
theorem make_end {p e : TypeId} {w w' : World} {lo mb pb pc tc g c len : Nat} {ta : Option Addr} {P : List (Int × Int)} {S : List TriM} {a b c' : Int} (h : MeshO p e w lo mb pb pc (.slice ta len tc) P S) (hlen : S.length = len)
  (hrow : w'.ownsRow lo e 9 (.slice (some ⟨g, 0, none⟩) (len + 1) c) (len + 1) (triCells S ++ (newT a b c').cells)) (hg : w.grownBy w' (Value.ownBlock (.slice ta len tc))) (hwh : Value.ownBlock (.slice (some ⟨g, 0, none⟩) (len + 1) c) = Value.ownBlock (.slice ta len tc) ∨ ∀ k, Value.ownBlock (.slice (some ⟨g, 0, none⟩) (len + 1) c) = some k → w.heap.size ≤ k) (hsh : len + 1 ≤ 1000000 := by omega) :
  Box w' mb [.slice (some ⟨pb, 0, none⟩) P.length pc, .slice ta len tc] ∧ w'.cell? ⟨mb, 1, none⟩ = some (.slice ta len tc) ∧ w'.frozen? ⟨mb, 1, none⟩ = false ∧
  MeshO p e (w'.setCell ⟨mb, 1, none⟩ (.slice (some ⟨g, 0, none⟩) (len + 1) c)) lo mb pb pc (.slice (some ⟨g, 0, none⟩) (len + 1) c) P (S ++ [newT a b c']) ∧ Mut w (w'.setCell ⟨mb, 1, none⟩ (.slice (some ⟨g, 0, none⟩) (len + 1) c)) mb (.slice ta len tc) (.slice (some ⟨g, 0, none⟩) (len + 1) c) := by
 have hbx : Box w' mb [.slice (some ⟨pb, 0, none⟩) P.length pc, .slice ta len tc] := h.box.grown hg (fun e => h.apart.1 e) h.low.2.1
 have hs := hbx.set 1 (.slice (some ⟨g, 0, none⟩) (len + 1) c)
 have hgk : ∀ k, k < w.heap.size → Value.ownBlock (.slice ta len tc) ≠ some k → g ≠ k := by
  intro k hk hne e
  subst e
  rcases hwh with h1 | h1
  ·exact hne (by rw [← h1]; rfl)
  ·have := h1 g rfl; omega
 have hgm := hgk mb h.low.2.1 h.apart.1
 have hgp := hgk pb h.low.2.2.1 h.apart.2
 have htu : Turned w' (w'.setCell ⟨mb, 1, none⟩ (.slice (some ⟨g, 0, none⟩) (len + 1) c)) mb := (Turned.refl _ _).setCell 1 _
 have hlen1 : (S ++ [newT a b c']).length = len + 1 := by simp [hlen]
 have htc : triCells (S ++ [newT a b c']) = triCells S ++ (newT a b c').cells := by rw [triCells_app]; simp [triCells]
 have hsz := hg.size
 have hlow := h.low
 refine ⟨hbx, hbx.c1, hbx.f 1 _ rfl, ⟨hs, ?_, ?_, ?_, ⟨fun e => ?_, fun e => ?_⟩, ?_⟩, ⟨hg.os, hg.tape, hg.output, by rw [htu.size]; exact hg.size, fun k hk h1 h2 => ⟨?_, fun e => ?_⟩⟩⟩
 ·refine owns_same h.prow fun k hk => ?_
  obtain rfl : k = pb := (by simpa [Value.ownBlock] using hk.symm)
  exact (htu.block _ hlow.2.2.2).trans (hg.block _ hlow.2.2.1 (fun e => h.apart.2 e.symm))
 ·rw [hlen1, htc]
  exact owns_turned hrow htu (fun e => hgm (by simpa [Value.ownBlock] using e))
 ·rw [htu.size]; omega
 ·exact hgm (by simpa [Value.ownBlock] using e)
 ·exact hgp (by simpa [Value.ownBlock] using e)
 ·rw [hlen1]; exact ⟨h.short.1, hsh⟩
 ·exact (htu.block k h1).trans (hg.block k hk (fun e => h2 e.symm))
 ·exact hgk k hk h2 (by simpa [Value.ownBlock] using e)
set_option maxRecDepth 100000 in
set_option maxHeartbeats 16000000 in
theorem mkTri_any {lo mb pb pc : Nat} {tv : Value} {P : List (Int × Int)} {S : List TriM} (a b c : Int) (w : World) (h : MeshO 62 49 w lo mb pb pc tv P S) (hroom : S.length + 1 ≤ 1000000) :
  Calls Try.prog 37 #[.pointer (some ⟨mb, 0, none⟩), .int .i64 a, .int .i64 b, .int .i64 c] w fun e w' => ∃ tv', e = .returned (.int .i64 (makeK S : Nat)) ∧ MeshO 62 49 w' lo mb pb pc tv' P (makeM S a b c) ∧ Mut w w' mb tv tv' := by
 obtain ⟨i0, hi, hz0, hz1, hz2⟩ := info_parts infoT
 have HI := Lib.hid hi; have HZ0 := Lib.hid hz0; have HZ1 := Lib.hid hz1; have HZ2 := Lib.hid hz2
 clear hi hz0 hz1 hz2
 obtain ⟨ta, tc, rfl, hr⟩ := h.read
 obtain ⟨wz, hwz, pz_0, hbz, hsz⟩ := new_box w _ rfl [.int .i64 0, .int .i64 0, .int .i64 0, .int .i64 0, .int .i64 0, .int .i64 0, .bool false, .bool false, .bool false] 49
 obtain ⟨w1, hw1⟩ : ∃ w1, setAll wz w.heap.size 0 [.int .i64 a, .int .i64 b, .int .i64 c, .int .i64 (-1), .int .i64 (-1), .int .i64 (-1), .bool false, .bool false, .bool false] = w1 := ⟨_, rfl⟩
 have px_0 : Box w1 w.heap.size [.int .i64 a, .int .i64 b, .int .i64 c, .int .i64 (-1), .int .i64 (-1), .int .i64 (-1), .bool false, .bool false, .bool false] := by rw [← hw1]; exact pz_0.setAll [.int .i64 a, .int .i64 b, .int .i64 c, .int .i64 (-1), .int .i64 (-1), .int .i64 (-1), .bool false, .bool false, .bool false] rfl
 have hb1 : Below w.heap.size w w1 := by rw [← hw1]; exact below_setAll hbz (Nat.le_refl _) _
 have HPZ := Lib.hid pz_0; have HW1 := Lib.hid hw1
 clear pz_0 hbz hsz hw1
 have ho1 := h.below hb1
 have hr1 := hr.below hb1
 have hm1 : Mut w w1 mb (.slice ta S.length tc) (.slice ta S.length tc) := Mut.of_below hb1 (fun k hk => (h.row.lt k hk).2)
 obtain ⟨len, hlen⟩ : ∃ len, S.length = len := ⟨_, rfl⟩
 have HLEN := Lib.hid hlen
 have H1 := Lib.hid ho1; have HR1 := Lib.hid hr1; have HM1 := Lib.hid hm1
 rw [hlen] at hroom
 have b0 := ho1.box.c0; have b1 := ho1.box.c1
 rw [hlen] at b1
 obtain ⟨x0, x1, x2, x3, x4, x5, x6, x7, x8⟩ := px_0.nine
 obtain ⟨r, hrk⟩ : ∃ r, makeK S = r := ⟨_, rfl⟩
 obtain ⟨S', hS'⟩ : ∃ S', makeM S a b c = S' := ⟨_, rfl⟩
 rw [hrk, hS']
 have HRK := Lib.hid hrk; have HS' := Lib.hid hS'
 rw [hlen]
 clear h hr ho1 hr1 hm1 hlen hrk hS'
 go_enter Try.func37, Try.ntmps37
 go_wp2_with (with_reducible refine wpList_store_box rfl _ _ _ rfl [.int .i64 a, .int .i64 b, .int .i64 c, .int .i64 (-1), .int .i64 (-1), .int .i64 (-1), .bool false, .bool false, .bool false] HPZ.out rfl rfl (by kernel_rfl) (by simp) rfl HW1.out ?_)
 clear hwz
 clear x0 x1 x2 x3 x4 x5 x6 x7 x8 b0 b1
 go_loop [10, 22] (fun _ iv => ∃ k : Nat, k ≤ len ∧ iv = .int .i64 k ∧ ∀ j T, j < k → S[j]? = some T → goneB T = false) (fun _ iv => len - (intOf iv).toNat)
 case atStart => exact ⟨0, Nat.zero_le _, rfl, fun j T hj => by omega⟩
 case round =>
  obtain ⟨k, hk, rfl, hne⟩ := hrel
  have HNE := Lib.hid hne; clear hne
  by_cases hlt : k < len
  ·obtain ⟨T, hT⟩ : ∃ T, S[k]? = some T := ⟨_, List.getElem?_eq_getElem (by rw [HLEN.out]; exact hlt)⟩
   have b0 := H1.out.box.c0; have b1 := H1.out.box.c1
   obtain ⟨tb, hta, htl, ht9⟩ := HR1.out.tris.get hT
   subst hta
   rw [HLEN.out] at b1
   have hgone := gone_any tb (k * 9) T w1 ht9.c0 ht9.c1 ht9.c2
   have HT := Lib.hid hT; clear hT ht9
   cases hg : goneB T with
   | false =>
    rw [hg] at hgone
    have HG := Lib.hid hgone; have HGB := Lib.hid hg; clear hgone hg
    go_wp2_with fail
    refine HG.out.mono ?_
    rintro e w' ⟨rfl, rfl⟩
    go_wp2
    go_round
    case rel => exact ⟨k + 1, by omega, by go_num, fun j T' hj hT' => by
     rcases Nat.lt_or_ge j k with g | g
     ·exact HNE.out j T' g hT'
     ·obtain rfl : j = k := by omega
      rw [HT.out] at hT'; cases hT'; exact HGB.out⟩
    case measure => simp [intOf]; omega
   | true =>
    rw [hg] at hgone
    have hfk : freeK S = some k := by
     unfold freeK
     rw [List.findIdx?_eq_some_iff_getElem]
     refine ⟨by rw [HLEN.out]; exact hlt, ?_, fun j hj => ?_⟩
     ·have := HT.out; rw [List.getElem?_eq_some_iff] at this; obtain ⟨_, e⟩ := this; rw [e]; exact hg
     ·have := HNE.out j _ hj (List.getElem?_eq_getElem (by rw [HLEN.out]; omega)); rw [this]; simp
    have e1 : r = k := by rw [← HRK.out]; unfold makeK; rw [hfk]
    have e2 : S' = S.set k (newT a b c) := by rw [← HS'.out]; unfold makeM; rw [hfk]
    subst e1 e2
    have HG := Lib.hid hgone
    have hd := H1.out.drew
    have hbx := owns_box hd.row
    have hlx : r * 9 + (newT a b c).cells.length ≤ (triCells S).length := by rw [triCells_len, TriM.cells_len, HLEN.out]; omega
    obtain ⟨ho, hm⟩ := hd.setT (S' := S.set r (newT a b c)) (r * 9) (newT a b c).cells (by simp) (setL_tri (by rw [HLEN.out]; exact hlt) (newT a b c))
    have ct := hd.box.c1
    rw [HLEN.out] at ct hm ho
    obtain ⟨wn, hwn⟩ : ∃ wn, setAll w1.drew tb (r * 9) (newT a b c).cells = wn := ⟨_, rfl⟩
    rw [hwn] at ho hm
    have hmm := HM1.out
    rw [HLEN.out] at hmm
    have hmw := hmm.drew.trans hm
    have HO := Lib.hid ho; have HM := Lib.hid hmw; have HBX := Lib.hid hbx; have HLX := Lib.hid hlx; have HWN := Lib.hid hwn
    have pd_0 := px_0.drew
    obtain ⟨x0, x1, x2, x3, x4, x5, x6, x7, x8⟩ := pd_0.nine
    have hb1' : (0 : Int) ≤ (r : Int) := by omega
    have hb2' : (r : Int) < (len : Int) := by omega
    clear hgone hd hbx hlx ho hm hmm hmw hwn hfk hg pd_0
    go_wp2_with fail
    refine HG.out.mono ?_
    rintro e w' ⟨rfl, rfl⟩
    go_wp2
    obtain ⟨SSq, hSSq⟩ : ∃ S : Array Bool → World → Prop, ∀ l w', S l w' ↔ ((l.getD 7 true = false → w'.cell? ⟨mb, 1, none⟩ = some (.slice (some ⟨tb, 0, none⟩) len tc)) ∧ (l.getD 7 true = false → w'.cell? ⟨w.heap.size, 0, none⟩ = some (.int .i64 a)) ∧ (l.getD 7 true = false → w'.cell? ⟨w.heap.size, 1, none⟩ = some (.int .i64 b)) ∧ (l.getD 7 true = false → w'.cell? ⟨w.heap.size, 2, none⟩ = some (.int .i64 c)) ∧ (l.getD 7 true = false → w'.cell? ⟨w.heap.size, 3, none⟩ = some (.int .i64 (-1))) ∧ (l.getD 7 true = false → w'.cell? ⟨w.heap.size, 4, none⟩ = some (.int .i64 (-1))) ∧ (l.getD 7 true = false → w'.cell? ⟨w.heap.size, 5, none⟩ = some (.int .i64 (-1))) ∧ (l.getD 7 true = false → w'.cell? ⟨w.heap.size, 6, none⟩ = some (.bool false)) ∧ (l.getD 7 true = false → w'.cell? ⟨w.heap.size, 7, none⟩ = some (.bool false)) ∧ (l.getD 7 true = false → w'.cell? ⟨w.heap.size, 8, none⟩ = some (.bool false))) := ⟨_, fun _ _ => Iff.rfl⟩
    refine wp_region_noPanic ?_
    refine wp_region_G SSq 8 #[false, false, false, false, false, false, false, false] (by kernel_rfl) (by kernel_rfl) (by kernel_rfl) ((hSSq _ _).2 ⟨(fun _ => ct), (fun _ => x0), (fun _ => x1), (fun _ => x2), (fun _ => x3), (fun _ => x4), (fun _ => x5), (fun _ => x6), (fun _ => x7), (fun _ => x8)⟩) (fun hCl hHeld => ?_)
    generalize w1.drew = w2 at *
    refine rG 0 ?_ ?_ ?_ ?_ ?_ ?_ hCl hHeld ?_;rotate_left 2
    ·simp only [gA,gZ]; exact rfl
    ·intro l w'; rw [hSSq, hSSq]; rw [getD_set_ne (i := 0) (j := 7) true (by decide)]
    ·rfl
    ·intro w' hA;clear hA;go_simp;try with_reducible rfl
    clear hCl hHeld
    intro hCl hHeld
    simp only [List.setIfInBounds_toArray, List.set_cons_zero] at hCl hHeld
    (try simp only [Act.put]);try simp only [sA,sZ,sS]
    refine rG 1 ?_ ?_ ?_ ?_ ?_ ?_ hCl hHeld ?_;rotate_left 2
    ·simp only [gA,gS,gZ]; exact rfl
    ·intro l w'; rw [hSSq, hSSq]; rw [getD_set_ne (i := 1) (j := 7) true (by decide)]
    ·rfl
    ·intro w' hA;clear hA;go_simp;try with_reducible rfl
    clear hCl hHeld
    intro hCl hHeld
    simp only [sA,sZ,sS] at hCl hHeld
    (try simp only [Act.put]);try simp only [sA,sZ,sS]
    refine rG 2 ?_ ?_ ?_ ?_ ?_ ?_ hCl hHeld ?_;rotate_left 2
    ·simp only [gA,gS,gZ]; exact rfl
    ·intro l w'; rw [hSSq, hSSq]; rw [getD_set_ne (i := 2) (j := 7) true (by decide)]
    ·rfl
    ·intro w' hA;clear hA;go_simp;try with_reducible rfl
    clear hCl hHeld
    intro hCl hHeld
    simp only [sA,sZ,sS] at hCl hHeld
    (try simp only [Act.put]);try simp only [sA,sZ,sS]
    refine rG 3 ?_ ?_ ?_ ?_ ?_ ?_ hCl hHeld ?_;rotate_left 2
    ·simp only [gA,gS,gZ]; exact rfl
    ·intro l w'; rw [hSSq, hSSq]; rw [getD_set_ne (i := 3) (j := 7) true (by decide)]
    ·rfl
    ·intro w' hA; obtain ⟨l, hl, hi, hSl⟩ := hA; have hSl := (hSSq _ _).1 hSl; obtain ⟨hy0, hy1, hy2, hy3, hy4, hy5, hy6, hy7, hy8, hy9⟩ := hSl; have hz0 := hy0 (hl.not (t := 7) (by kernel_rfl) hi); have hz1 := hy1 (hl.not (t := 7) (by kernel_rfl) hi); have hz2 := hy2 (hl.not (t := 7) (by kernel_rfl) hi); have hz3 := hy3 (hl.not (t := 7) (by kernel_rfl) hi); have hz4 := hy4 (hl.not (t := 7) (by kernel_rfl) hi); have hz5 := hy5 (hl.not (t := 7) (by kernel_rfl) hi); have hz6 := hy6 (hl.not (t := 7) (by kernel_rfl) hi); have hz7 := hy7 (hl.not (t := 7) (by kernel_rfl) hi); have hz8 := hy8 (hl.not (t := 7) (by kernel_rfl) hi); have hz9 := hy9 (hl.not (t := 7) (by kernel_rfl) hi); go_simp; try with_reducible rfl
    clear hCl hHeld
    intro hCl hHeld
    simp only [sA,sZ,sS] at hCl hHeld
    (try simp only [Act.put]);try simp only [sA,sZ,sS]
    refine rG 4 ?_ ?_ ?_ ?_ ?_ ?_ hCl hHeld ?_;rotate_left 2
    ·simp only [gA,gS,gZ]; exact rfl
    ·intro l w'; rw [hSSq, hSSq]; rw [getD_set_ne (i := 4) (j := 7) true (by decide)]
    ·rfl
    ·intro w' hA;clear hA;go_simp;try with_reducible rfl
    clear hCl hHeld
    intro hCl hHeld
    simp only [sA,sZ,sS] at hCl hHeld
    (try simp only [Act.put]);try simp only [sA,sZ,sS]
    refine rG 5 ?_ ?_ ?_ ?_ ?_ ?_ hCl hHeld ?_;rotate_left 2
    ·simp only [gA,gS,gZ]; exact rfl
    ·intro l w'; rw [hSSq, hSSq]; rw [getD_set_ne (i := 5) (j := 7) true (by decide)]
    ·rfl
    ·intro w' hA; obtain ⟨l, hl, hi, hSl⟩ := hA; have hSl := (hSSq _ _).1 hSl; obtain ⟨hy0, hy1, hy2, hy3, hy4, hy5, hy6, hy7, hy8, hy9⟩ := hSl; have hz0 := hy0 (hl.not (t := 7) (by kernel_rfl) hi); have hz1 := hy1 (hl.not (t := 7) (by kernel_rfl) hi); have hz2 := hy2 (hl.not (t := 7) (by kernel_rfl) hi); have hz3 := hy3 (hl.not (t := 7) (by kernel_rfl) hi); have hz4 := hy4 (hl.not (t := 7) (by kernel_rfl) hi); have hz5 := hy5 (hl.not (t := 7) (by kernel_rfl) hi); have hz6 := hy6 (hl.not (t := 7) (by kernel_rfl) hi); have hz7 := hy7 (hl.not (t := 7) (by kernel_rfl) hi); have hz8 := hy8 (hl.not (t := 7) (by kernel_rfl) hi); have hz9 := hy9 (hl.not (t := 7) (by kernel_rfl) hi); go_simp; try with_reducible rfl
    clear hCl hHeld
    intro hCl hHeld
    simp only [sA,sZ,sS] at hCl hHeld
    (try simp only [Act.put]);try simp only [sA,sZ,sS]
    refine rG 6 ?_ ?_ ?_ ?_ ?_ ?_ hCl hHeld ?_;rotate_left 2
    ·simp only [gA,gS,gZ]; exact rfl
    ·intro l w'; rw [hSSq, hSSq]; rw [getD_set_ne (i := 6) (j := 7) true (by decide)]
    ·rfl
    ·intro w' hA;clear hA;go_simp;try with_reducible rfl
    clear hCl hHeld
    intro hCl hHeld
    simp only [sA,sZ,sS] at hCl hHeld
    (try simp only [Act.put]);try simp only [sA,sZ,sS]
    clear hCl hHeld
    refine reg_callG 7 ?_ (by kernel_rfl) ?_ (fun K hK => ?_);rotate_left 1
    ·simp only [gA,gS,gZ]; exact rfl
    refine wanted_go rfl ?_
    refine wp_store_box _ _ _ rfl (newT a b c).cells HBX.out rfl rfl (by kernel_rfl) HLX.out rfl HWN.out ?_
    refine hK.out _ _ ((hSSq _ _).2 ⟨(fun h => absurd h (by decide)), (fun h => absurd h (by decide)), (fun h => absurd h (by decide)), (fun h => absurd h (by decide)), (fun h => absurd h (by decide)), (fun h => absurd h (by decide)), (fun h => absurd h (by decide)), (fun h => absurd h (by decide)), (fun h => absurd h (by decide)), (fun h => absurd h (by decide))⟩) ?_
    clear hK K
    (try simp only [Act.put]);try simp only [sA,sZ,sS]
    refine wpAnyG_done (by kernel_rfl) ?_ _
    refine NoPanic.normal ?_
    clear hSSq SSq
    go_wp2
    go_ret
    exact ⟨_, rfl, HO.out, HM.out⟩
  ·have hfk : freeK S = none := by
    unfold freeK
    rw [List.findIdx?_eq_none_iff]
    intro T hT
    obtain ⟨j, hj, e⟩ := List.mem_iff_getElem.1 hT
    exact HNE.out j T (by rw [HLEN.out] at hj; omega) (by rw [List.getElem?_eq_getElem hj, e])
   have e1 : len = r := by rw [← HRK.out, ← HLEN.out]; unfold makeK; rw [hfk]
   have e2 : S' = S ++ [newT a b c] := by rw [← HS'.out]; unfold makeM; rw [hfk]
   subst e1 e2
   have hd := H1.out.drew
   have ct := hd.box.c1
   rw [HLEN.out] at ct hd
   have HO2 := Lib.hid hd
   have hmm := HM1.out.drew
   rw [HLEN.out] at hmm
   have HMM := Lib.hid hmm
   have pd_0 := px_0.drew
   obtain ⟨x0, x1, x2, x3, x4, x5, x6, x7, x8⟩ := pd_0.nine
   clear hd hmm hfk pd_0
   go_wp2
   obtain ⟨SSr, hSSr⟩ : ∃ S : Array Bool → World → Prop, ∀ l w', S l w' ↔ ((l.getD 7 true = false → w'.cell? ⟨mb, 1, none⟩ = some (.slice ta len tc)) ∧ (l.getD 6 true = false → w'.cell? ⟨w.heap.size, 0, none⟩ = some (.int .i64 a)) ∧ (l.getD 6 true = false → w'.cell? ⟨w.heap.size, 1, none⟩ = some (.int .i64 b)) ∧ (l.getD 6 true = false → w'.cell? ⟨w.heap.size, 2, none⟩ = some (.int .i64 c)) ∧ (l.getD 6 true = false → w'.cell? ⟨w.heap.size, 3, none⟩ = some (.int .i64 (-1))) ∧ (l.getD 6 true = false → w'.cell? ⟨w.heap.size, 4, none⟩ = some (.int .i64 (-1))) ∧ (l.getD 6 true = false → w'.cell? ⟨w.heap.size, 5, none⟩ = some (.int .i64 (-1))) ∧ (l.getD 6 true = false → w'.cell? ⟨w.heap.size, 6, none⟩ = some (.bool false)) ∧ (l.getD 6 true = false → w'.cell? ⟨w.heap.size, 7, none⟩ = some (.bool false)) ∧ (l.getD 6 true = false → w'.cell? ⟨w.heap.size, 8, none⟩ = some (.bool false))) := ⟨_, fun _ _ => Iff.rfl⟩
   refine wp_region_noPanic ?_
   refine wp_region_G SSr 11 #[false, false, false, false, false, false, false, false, false, false, false] (by kernel_rfl) (by kernel_rfl) (by kernel_rfl) ((hSSr _ _).2 ⟨(fun _ => ct), (fun _ => x0), (fun _ => x1), (fun _ => x2), (fun _ => x3), (fun _ => x4), (fun _ => x5), (fun _ => x6), (fun _ => x7), (fun _ => x8)⟩) (fun hCl hHeld => ?_)
   generalize w1.drew = w2 at *
   refine rG 0 ?_ ?_ ?_ ?_ ?_ ?_ hCl hHeld ?_;rotate_left 2
   ·simp only [gA,gZ]; exact rfl
   ·intro l w'; rw [hSSr, hSSr]; rw [getD_set_ne (i := 0) (j := 7) true (by decide)]; rw [getD_set_ne (i := 0) (j := 6) true (by decide)]
   ·rfl
   ·intro w' hA;clear hA;go_simp;try with_reducible rfl
   clear hCl hHeld
   intro hCl hHeld
   simp only [List.setIfInBounds_toArray, List.set_cons_zero] at hCl hHeld
   (try simp only [Act.put]);try simp only [sA,sZ,sS]
   refine rG 1 ?_ ?_ ?_ ?_ ?_ ?_ hCl hHeld ?_;rotate_left 2
   ·simp only [gA,gS,gZ]; exact rfl
   ·intro l w'; rw [hSSr, hSSr]; rw [getD_set_ne (i := 1) (j := 7) true (by decide)]; rw [getD_set_ne (i := 1) (j := 6) true (by decide)]
   ·rfl
   ·intro w' hA;clear hA;go_simp;try with_reducible rfl
   clear hCl hHeld
   intro hCl hHeld
   simp only [sA,sZ,sS] at hCl hHeld
   (try simp only [Act.put]);try simp only [sA,sZ,sS]
   refine rG 2 ?_ ?_ ?_ ?_ ?_ ?_ hCl hHeld ?_;rotate_left 2
   ·simp only [gA,gS,gZ]; exact rfl
   ·intro l w'; rw [hSSr, hSSr]; rw [getD_set_ne (i := 2) (j := 7) true (by decide)]; rw [getD_set_ne (i := 2) (j := 6) true (by decide)]
   ·rfl
   ·intro w' hA;clear hA;go_simp;try with_reducible rfl
   clear hCl hHeld
   intro hCl hHeld
   simp only [sA,sZ,sS] at hCl hHeld
   (try simp only [Act.put]);try simp only [sA,sZ,sS]
   refine rG 3 ?_ ?_ ?_ ?_ ?_ ?_ hCl hHeld ?_;rotate_left 2
   ·simp only [gA,gS,gZ]; exact rfl
   ·intro l w'; rw [hSSr, hSSr]; rw [getD_set_ne (i := 3) (j := 7) true (by decide)]; rw [getD_set_ne (i := 3) (j := 6) true (by decide)]
   ·rfl
   ·intro w' hA;clear hA;go_simp;try with_reducible rfl
   clear hCl hHeld
   intro hCl hHeld
   simp only [sA,sZ,sS] at hCl hHeld
   (try simp only [Act.put]);try simp only [sA,sZ,sS]
   refine rG 4 ?_ ?_ ?_ ?_ ?_ ?_ hCl hHeld ?_;rotate_left 2
   ·simp only [gA,gS,gZ]; exact rfl
   ·intro l w'; rw [hSSr, hSSr]; rw [getD_set_ne (i := 4) (j := 7) true (by decide)]; rw [getD_set_ne (i := 4) (j := 6) true (by decide)]
   ·rfl
   ·intro w' hA; obtain ⟨l, hl, hi, hSl⟩ := hA; have hSl := (hSSr _ _).1 hSl; obtain ⟨hy0, -, -, -, -, -, -, -, -, -⟩ := hSl; have hz0 := hy0 (hl.not (t := 7) (by kernel_rfl) hi); go_simp; try with_reducible rfl
   clear hCl hHeld
   intro hCl hHeld
   simp only [sA,sZ,sS] at hCl hHeld
   (try simp only [Act.put]);try simp only [sA,sZ,sS]
   refine rG 5 ?_ ?_ ?_ ?_ ?_ ?_ hCl hHeld ?_;rotate_left 2
   ·simp only [gA,gS,gZ]; exact rfl
   ·intro l w'; rw [hSSr, hSSr]; rw [getD_set_ne (i := 5) (j := 7) true (by decide)]; rw [getD_set_ne (i := 5) (j := 6) true (by decide)]
   ·rfl
   ·intro w' hA; obtain ⟨l, hl, hi, hSl⟩ := hA; have hSl := (hSSr _ _).1 hSl; obtain ⟨-, hy1, hy2, hy3, hy4, hy5, hy6, hy7, hy8, hy9⟩ := hSl; have hz1 := hy1 (hl.not (t := 6) (by kernel_rfl) hi); have hz2 := hy2 (hl.not (t := 6) (by kernel_rfl) hi); have hz3 := hy3 (hl.not (t := 6) (by kernel_rfl) hi); have hz4 := hy4 (hl.not (t := 6) (by kernel_rfl) hi); have hz5 := hy5 (hl.not (t := 6) (by kernel_rfl) hi); have hz6 := hy6 (hl.not (t := 6) (by kernel_rfl) hi); have hz7 := hy7 (hl.not (t := 6) (by kernel_rfl) hi); have hz8 := hy8 (hl.not (t := 6) (by kernel_rfl) hi); have hz9 := hy9 (hl.not (t := 6) (by kernel_rfl) hi); go_simp; try with_reducible rfl
   clear hCl hHeld
   intro hCl hHeld
   simp only [sA,sZ,sS] at hCl hHeld
   (try simp only [Act.put]);try simp only [sA,sZ,sS]
   clear hCl hHeld
   obtain ⟨w3, hw3, pq_0, hb3, hs3⟩ := new_box w2 _ rfl [.int .i64 a, .int .i64 b, .int .i64 c, .int .i64 (-1), .int .i64 (-1), .int .i64 (-1), .bool false, .bool false, .bool false] 49
   refine reg_callG 6 ?_ (by kernel_rfl) ?_ (fun K hK => ?_);rotate_left 1
   ·simp only [gA,gS,gZ]; exact rfl
   go_simp
   try rw [hw3]
   have ct3 := (hb3.cell (p := ⟨mb, 1, none⟩) (World.block_lt_of_cell? w2 _ ct)).trans ct
   refine hK.out _ _ ((hSSr _ _).2 ⟨(fun _ => ct3), (fun h => absurd h (by decide)), (fun h => absurd h (by decide)), (fun h => absurd h (by decide)), (fun h => absurd h (by decide)), (fun h => absurd h (by decide)), (fun h => absurd h (by decide)), (fun h => absurd h (by decide)), (fun h => absurd h (by decide)), (fun h => absurd h (by decide))⟩) ?_
   clear hK K
   (try simp only [Act.put]);try simp only [sA,sZ,sS]
   have ho3 := HO2.out.below hb3
   obtain ⟨v', w4, hrun, hrow4, hgrow, hwhere⟩ := run_append_where (P := Try.prog) w3 lo 41 41 49 i0 (.agg #[.int .i64 0, .int .i64 0, .int .i64 0, .int .i64 0, .int .i64 0, .int .i64 0, .bool false, .bool false, .bool false]) 9 56 (by kernel_rfl) HI.out HZ0.out HZ1.out HZ2.out rfl (.slice ta len tc) len _ (HLEN.out ▸ ho3.row) ⟨w2.heap.size, 0, none⟩ 1 1 [.int .i64 a, .int .i64 b, .int .i64 c, .int .i64 (-1), .int .i64 (-1), .int .i64 (-1), .bool false, .bool false, .bool false] (by omega) rfl pq_0.news (triCells_one' (newT a b c)) (by unfold maxLen; omega) (by omega) (by have := ho3.low; omega)
   refine reg_callG 7 ?_ (by kernel_rfl) ?_ (fun K hK => ?_);rotate_left 1
   ·simp only [gA,gS,gZ]; exact rfl
   refine wanted_go rfl ?_
   refine wp_append_row _ _ 41 rfl rfl rfl hrun ?_
   obtain ⟨g', cap', rfl⟩ := ownsRow_succ hrow4
   obtain ⟨hbx4, c4, f4, HFIN⟩ := make_end ho3 HLEN.out hrow4 hgrow hwhere
   refine hK.out _ _ ((hSSr _ _).2 ⟨(fun h => absurd h (by decide)), (fun h => absurd h (by decide)), (fun h => absurd h (by decide)), (fun h => absurd h (by decide)), (fun h => absurd h (by decide)), (fun h => absurd h (by decide)), (fun h => absurd h (by decide)), (fun h => absurd h (by decide)), (fun h => absurd h (by decide)), (fun h => absurd h (by decide))⟩) ?_
   clear hK K
   (try simp only [Act.put]);try simp only [sA,sZ,sS]
   refine reg_callG 8 ?_ (by kernel_rfl) ?_ (fun K hK => ?_);rotate_left 1
   ·simp only [gA,gS,gZ]; exact rfl
   go_simp
   refine hK.out _ _ ((hSSr _ _).2 ⟨(fun h => absurd h (by decide)), (fun h => absurd h (by decide)), (fun h => absurd h (by decide)), (fun h => absurd h (by decide)), (fun h => absurd h (by decide)), (fun h => absurd h (by decide)), (fun h => absurd h (by decide)), (fun h => absurd h (by decide)), (fun h => absurd h (by decide)), (fun h => absurd h (by decide))⟩) ?_
   clear hK K
   (try simp only [Act.put]);try simp only [sA,sZ,sS]
   refine reg_callG 9 ?_ (by kernel_rfl) ?_ (fun K hK => ?_);rotate_left 1
   ·simp only [gA,gS,gZ]; exact rfl
   go_simp
   refine hK.out _ _ ((hSSr _ _).2 ⟨(fun h => absurd h (by decide)), (fun h => absurd h (by decide)), (fun h => absurd h (by decide)), (fun h => absurd h (by decide)), (fun h => absurd h (by decide)), (fun h => absurd h (by decide)), (fun h => absurd h (by decide)), (fun h => absurd h (by decide)), (fun h => absurd h (by decide)), (fun h => absurd h (by decide))⟩) ?_
   clear hK K
   (try simp only [Act.put]);try simp only [sA,sZ,sS]
   refine reg_callG 10 ?_ (by kernel_rfl) ?_ (fun K hK => ?_);rotate_left 1
   ·simp only [gA,gS,gZ]; exact rfl
   go_simp
   refine hK.out _ _ ((hSSr _ _).2 ⟨(fun h => absurd h (by decide)), (fun h => absurd h (by decide)), (fun h => absurd h (by decide)), (fun h => absurd h (by decide)), (fun h => absurd h (by decide)), (fun h => absurd h (by decide)), (fun h => absurd h (by decide)), (fun h => absurd h (by decide)), (fun h => absurd h (by decide)), (fun h => absurd h (by decide))⟩) ?_
   clear hK K
   (try simp only [Act.put]);try simp only [sA,sZ,sS]
   refine wpAnyG_done (by kernel_rfl) ?_ _
   refine NoPanic.normal ?_
   clear hSSr SSr
   obtain ⟨hfo, hfm⟩ := HFIN
   have c5 := hfo.box.c1
   have HO := Lib.hid hfo; have HM := Lib.hid (HMM.out.trans ((Mut.of_below hb3 (fun k hk => (HO2.out.row.lt k hk).2)).trans hfm))
   have b0' := hfo.box.c0
   clear hfo hfm hbx4 c4 f4
   go_wp2
   go_ret
   exact ⟨_, rfl, HO.out, HM.out⟩
end Go.Proofs.Ytecnnpkpgbbfkaa
/- mesh's edges: what they are, and what stands in a round. Written by tools/mesh21.py. -/
namespace Go.MagM
open Go.RowKit
def hullT (S : List TriM) (T : TriM) (i : Nat) : Bool := !realM S (T.n i)
def edgeE (S : List TriM) (T : TriM) (i : Nat) : EdgeM := ⟨min (edgeV T i).1 (edgeV T i).2, max (edgeV T i).1 (edgeV T i).2, T.f i, hullT S T i⟩
/-- What a triangle tells of its first n edges. -/
def edgesI (S : List TriM) (T : TriM) : Nat → List EdgeM
 | 0 => []
 | n + 1 => edgesI S T n ++ (if (hullT S T n || decide ((edgeV T n).1 < (edgeV T n).2)) = true then [edgeE S T n] else [])
def rawE (S : List TriM) (l : List (Nat × TriM)) : List EdgeM := l.flatMap fun x => edgesI S x.2 3
theorem edgesI_yes {S : List TriM} {T : TriM} {n : Nat} (h : (hullT S T n || decide ((edgeV T n).1 < (edgeV T n).2)) = true) : edgesI S T (n + 1) = edgesI S T n ++ [edgeE S T n] := by rw [edgesI, if_pos h]
theorem edgesI_no {S : List TriM} {T : TriM} {n : Nat} (h : (hullT S T n || decide ((edgeV T n).1 < (edgeV T n).2)) = false) : edgesI S T (n + 1) = edgesI S T n := by rw [edgesI, if_neg (by rw [h]; decide), List.append_nil]
theorem edgesI_le (S : List TriM) (T : TriM) : ∀ n, (edgesI S T n).length ≤ n
 | 0 => Nat.le_refl _
 | n + 1 => by
  have := edgesI_le S T n
  rw [edgesI, List.length_append]
  split <;> simp <;> omega
theorem rawE_le (S : List TriM) : ∀ l : List (Nat × TriM), (rawE S l).length ≤ 3 * l.length
 | [] => Nat.le_refl _
 | x :: l => by
  have h := rawE_le S l
  have h2 := edgesI_le S x.2 3
  show (edgesI S x.2 3 ++ rawE S l).length ≤ _
  rw [List.length_append, List.length_cons]; omega
theorem rawE_snoc (S : List TriM) (l : List (Nat × TriM)) (x : Nat × TriM) : rawE S (l ++ [x]) = rawE S l ++ edgesI S x.2 3 := by unfold rawE; simp
def edgeCells (l : List EdgeM) : List Value := l.flatMap EdgeM.cells
theorem edgeCells_snoc (l : List EdgeM) (e : EdgeM) : edgeCells (l ++ [e]) = edgeCells l ++ e.cells := by unfold edgeCells; simp
theorem edgeCells_len : ∀ l : List EdgeM, (edgeCells l).length = l.length * 4
 | [] => rfl
 | e :: l => by
  show (e.cells ++ edgeCells l).length = _
  rw [List.length_append, edgeCells_len l, List.length_cons]
  show 4 + _ = _
  omega
theorem edgeCells_get : ∀ (l : List EdgeM) (i j : Nat) (e : EdgeM), l[i]? = some e → j < 4 → (edgeCells l)[i * 4 + j]? = e.cells[j]?
 | e :: l, 0, j, e', h, hj => by
  cases h
  show (e.cells ++ edgeCells l)[0 * 4 + j]? = _
  rw [Nat.zero_mul, Nat.zero_add, List.getElem?_append_left (by show j < 4; exact hj)]
 | e :: l, i + 1, j, e', h, hj => by
  show (e.cells ++ edgeCells l)[(i + 1) * 4 + j]? = _
  rw [List.getElem?_append_right (by show 4 ≤ _; omega)]
  have q : (i + 1) * 4 + j - e.cells.length = i * 4 + j := by show (i + 1) * 4 + j - 4 = _; omega
  rw [q]
  exact edgeCells_get l i j e' (by simpa using h) hj
theorem keepsOthersE {W W' : World} (h : Below W.heap.size W W') : KeepsOthers W W' := ⟨h.size, fun k _ hk _ => (h.block k (Array.getElem?_eq_some_iff.1 hk).1).trans hk⟩
/-- The blocks that the loop leaves as they are. -/
def EPb (n ob : Nat) : Nat → Prop := fun b => b < n ∧ b ≠ ob
/-- What stands in a round. -/
structure EdgR (te tS : TypeId) (w W3 W : World) (ob yb : Nat) (U : TriM) (L : List EdgeM) (wr : World) : Prop where
 ko : KeepsOthers W wr
 kb : KeepB (EPb W3.heap.size ob) W3 wr
 kw : KeepB (EPb W3.heap.size ob) W wr
 bl : Below w.heap.size w wr
 py : Box wr yb U.cells
 hyb : W3.heap.size ≤ yb
 row : ∃ v, Boxed wr ob tS v ∧ wr.ownsRow W3.heap.size te 4 v L.length (edgeCells L) ∧ v.ownBlock ≠ some yb
theorem EdgR.below {te tS : TypeId} {w W3 W : World} {ob yb : Nat} {U : TriM} {L : List EdgeM} {wr w' : World} (h : EdgR te tS w W3 W ob yb U L wr) (hb : Below wr.heap.size wr w') : EdgR te tS w W3 W ob yb U L w' :=
 have hl : W3.heap.size ≤ wr.heap.size := by have := h.py.lt; have := h.hyb; omega
 have hk : KeepB (EPb W3.heap.size ob) wr w' := KeepB.of_below hb (fun b hb => by have := hb.1; omega)
 ⟨h.ko.trans (keepsOthersE hb), h.kb.trans hk, h.kw.trans hk, h.bl.trans (hb.mono h.bl.size), h.py.below hb, h.hyb, by
  obtain ⟨v, h1, h2, h3⟩ := h.row
  exact ⟨v, (hb.block ob (Array.getElem?_eq_some_iff.1 h1).1).trans h1, owns_blow h2 hb, h3⟩⟩
/-- An edge is appended. -/
theorem EdgR.push {te tS : TypeId} (hte : tS ≠ te) {w W3 W : World} {ob yb : Nat} {U : TriM} {L : List EdgeM} {wr w4 : World} {v v' : Value} (h : EdgR te tS w W3 W ob yb U L wr) (hw : w.heap.size ≤ ob) (ho : ob < W3.heap.size) (hv : Boxed wr ob tS v) (hrow : wr.ownsRow W3.heap.size te 4 v L.length (edgeCells L)) (hny : v.ownBlock ≠ some yb) (e : EdgeM) {tmp : Obj}
  (hgrow : (wr.alloc tmp).grownBy w4 v.ownBlock) (hrow4 : w4.ownsRow W3.heap.size te 4 v' (L.length + 1) (edgeCells L ++ e.cells)) (hwh : v'.ownBlock = v.ownBlock ∨ ∀ k, v'.ownBlock = some k → (wr.alloc tmp).heap.size ≤ k) :
  EdgR te tS w W3 W ob yb U (L ++ [e]) (w4.setCell ⟨ob, 0, none⟩ v') := by
 have hl : W3.heap.size ≤ wr.heap.size := by have := h.py.lt; have := h.hyb; omega
 have hyl := h.py.lt
 have hyb := h.hyb
 obtain ⟨hv4, hv5, -, hk5, hb5⟩ := hv.appended hte (owns_mono hrow (by omega : ob ≤ W3.heap.size)) (by omega) (Nat.le_refl _) (owns_mono hrow4 (by omega : ob ≤ W3.heap.size)) hgrow
 have hvl := hrow.lt
 have hkk : KeepB (EPb W3.heap.size ob) wr (w4.setCell ⟨ob, 0, none⟩ v') := by
  intro b hb
  rw [heap_set_far _ _ _ _ _ hb.2, hgrow.block b (by have := hb.1; simp; omega) (fun e => by have := (hvl _ e.symm).1; have := hb.1; omega)]
  exact Below.heap_alloc wr tmp b (by have := hb.1; omega)
 refine ⟨h.ko.trans hk5, h.kb.trans hkk, h.kw.trans hkk, (h.bl.trans (hb5.mono hw)), ?_, h.hyb, v', hv5, ?_, ?_⟩
 ·have e1 : (w4.setCell ⟨ob, 0, none⟩ v').heap[yb]? = wr.heap[yb]? := by
   rw [heap_set_far _ _ _ _ _ (by omega), hgrow.block yb (by simp; omega) (fun e => hny e.symm)]
   exact Below.heap_alloc wr tmp yb hyl
  exact h.py.same e1
 ·rw [edgeCells_snoc, List.length_append]
  exact hrow4.kept (grownBy_setCell' w4 ob _) (.inr (hv4.not_row hte hrow4).symm)
 ·rcases hwh with e1 | e1
  ·rw [e1]; exact hny
  ·intro e2
   have := e1 yb e2
   simp at this
   omega
theorem min2E (P : Program) (a b m : Int) (h : min a b = m) (ats : Array TypeId) (ty : TypeId) (w : World) : (Builtin.min_ ats ty #[.int .i64 a, .int .i64 b]).run P w = .ok (.int .i64 m) w := by
 subst h
 have e : (if b < a then b else a) = min a b := by rw [Int.min_def]; split <;> split <;> omega
 rw [← e]
 simp [Builtin.min_, Builtin.min2, List.foldlM]
theorem max2E (P : Program) (a b m : Int) (h : max a b = m) (ats : Array TypeId) (ty : TypeId) (w : World) : (Builtin.max_ ats ty #[.int .i64 a, .int .i64 b]).run P w = .ok (.int .i64 m) w := by
 subst h
 have e : (if b > a then b else a) = max a b := by rw [Int.max_def]; split <;> split <;> omega
 rw [← e]
 simp [Builtin.max_, Builtin.max2, List.foldlM]
theorem range_startE {F : Fence} {n : Nat} {P : Program} {g : Operand} {ps : Array Tmp} {assign body : Code} {Q : Exit → Act → World → Prop} {a : Act} {w : World} (h : ∀ a0, a0 = a → (Code.rangeFunc g ps assign body).wpIn F n P Q a0 w) : (Code.rangeFunc g ps assign body).wpIn F n P Q a w := h a rfl
theorem box_ownE {β : Type} (B : Nat) (b : Nat) (f : β → List Value) : OwnFrom B (fun (s : β) W => Box W b (f s)) := fun _ _ _ _ hs hg hr =>
 ⟨fun j u hj => cell_kept (hs.c j u hj) hg (fun r e => (hr r e).2), fun j u hj => (frozen_kept (hs.c j u hj) hg (fun r e => (hr r e).2)).trans (hs.f j u hj)⟩
theorem box9E {w : World} {g : Nat} {T : TriM} (h : Box w g T.cells) {k : Nat} (hk : k < 3) : w.cell? ⟨g, 3 + k, none⟩ = some (.int .i64 (T.n k)) ∧ w.cell? ⟨g, 6 + k, none⟩ = some (.bool (T.f k)) := by
 obtain rfl | rfl | rfl : k = 0 ∨ k = 1 ∨ k = 2 := by omega
 ·exact ⟨h.c 3 _ rfl, h.c 6 _ rfl⟩
 ·exact ⟨h.c 4 _ rfl, h.c 7 _ rfl⟩
 ·exact ⟨h.c 5 _ rfl, h.c 8 _ rfl⟩
/-- Edges that are told: those of the real triangles, in order. -/
def EdgesAre (S : List TriM) (E : List EdgeM) : Prop := E.Perm (rawE S (realsK S S.length)) ∧ ∀ (i j : Nat) (x y : EdgeM), i < j → E[i]? = some x → E[j]? = some y → ltE y x = false
end Go.MagM
