/-
 DERIVED: THE SHELF's CONTRACTS AT THIS DUMP, IN PLAIN WORDS (tools/lay-plain.mjs out of 'TryzSortL.lean', which tools/lay-shelf.mjs wrote): THE SAME DECLARATIONS UNDER THE SAME NAMES: 'import', 'namespace', 'open', 'def', 'theorem' AND NOTHING ELSE: no command of the shelf's: FOR A HAND-IN. Each laying: the table of numbers ('.._ren') and one theorem, a field a fact of the dump's own or the kernel's comparison; each contract: ONE APPLICATION.
-/
import Derived.Shelf.SlGeneric
import Derived.Shelf.SortM.Plain
import Derived.Shelf.SortM.SortNone
import Derived.Ground.SlgmProg
import Derived.Test.YtecnnpkpgbbfkaaGreatProg
import Derived.Test.YtecnnpkpgbbfkaaGreatParts
import Derived.Test.YtecnnpkpgbbfkaaGreatParth
import Derived.Test.YtecnnpkpgbbfkaaGreatPartp
import Derived.Test.YtecnnpkpgbbfkaaGreatPartq
import Derived.Test.YtecnnpkpgbbfkaaGreatPartk
import Derived.RangeFuncNested
import Derived.RangeFuncBound
import Derived.RangeFuncCalls
import Derived.RangeFuncLeaves
import Derived.Test.YtecnnpkpgbbfkaaGreatWalkSk
import Derived.Test.YtecnnpkpgbbfkaaGreatParti
namespace Go.Proofs
open Go.Shelf
def Tryz.mSort_ren : Go.Shelf.Ren := ⟨fun | 5 => 157 | 8 => 133 | 7 => 204 | 19 => 179 | 20 => 139 | 10 => 226 | 11 => 227 | 12 => 228 | 13 => 229 | 14 => 230 | 15 => 231 | 16 => 232 | 17 => 233 | 18 => 234 | 30 => 243 | 31 => 216 | 32 => 217 | 33 => 244 | 34 => 245 | 35 => 134 | 40 => 254 | n => n, fun | 23 => 44 | 25 => 3 | 3 => 3 | 32 => 43 | 22 => 44 | 0 => 0 | 44 => 48 | 46 => 133 | 4 => 4 | 36 => 234 | 35 => 233 | 41 => 238 | 5 => 5 | 9 => 9 | 53 => 267 | 57 => 271 | 63 => 290 | 64 => 147 | n => n, fun | n => n⟩
theorem Tryz.mSort : Go.Proofs.SlLaysM.n5 Tryz.prog Tryz.mSort_ren := {
 mixed := by kernel_rfl
 f5 := ⟨Tryz.f157.name, by decide, Tryz.func157.trans (congrArg some (by kernel_rfl))⟩
 f7 := ⟨Tryz.f204.name, by decide, Tryz.func204.trans (congrArg some (by kernel_rfl))⟩
 f8 := Tryz.func133.trans (congrArg some (by kernel_rfl))
 f10 := ⟨Tryz.f226.name, by decide, Tryz.func226.trans (congrArg some (by kernel_rfl))⟩
 f11 := ⟨Tryz.f227.name, by decide, Tryz.func227.trans (congrArg some (by kernel_rfl))⟩
 f12 := ⟨Tryz.f228.name, by decide, Tryz.func228.trans (congrArg some (by kernel_rfl))⟩
 f13 := ⟨Tryz.f229.name, by decide, Tryz.func229.trans (congrArg some (by kernel_rfl))⟩
 f14 := ⟨Tryz.f230.name, by decide, Tryz.func230.trans (congrArg some (by kernel_rfl))⟩
 f15 := ⟨Tryz.f231.name, by decide, Tryz.func231.trans (congrArg some (by kernel_rfl))⟩
 f16 := ⟨Tryz.f232.name, by decide, Tryz.func232.trans (congrArg some (by kernel_rfl))⟩
 f17 := ⟨Tryz.f233.name, by decide, Tryz.func233.trans (congrArg some (by kernel_rfl))⟩
 f18 := ⟨Tryz.f234.name, by decide, Tryz.func234.trans (congrArg some (by kernel_rfl))⟩
 f19 := Tryz.func179.trans (congrArg some (by kernel_rfl))
 f20 := Tryz.func139.trans (congrArg some (by kernel_rfl))
 f30 := ⟨Tryz.f243.name, by decide, Tryz.func243.trans (congrArg some (by kernel_rfl))⟩
 f31 := Tryz.func216.trans (congrArg some (by kernel_rfl))
 f32 := Tryz.func217.trans (congrArg some (by kernel_rfl))
 f33 := ⟨Tryz.f244.name, by decide, Tryz.func244.trans (congrArg some (by kernel_rfl))⟩
 f34 := ⟨Tryz.f245.name, by decide, Tryz.func245.trans (congrArg some (by kernel_rfl))⟩
 f35 := ⟨Tryz.f134.name, by decide, Tryz.func134.trans (congrArg some (by kernel_rfl))⟩
 f40 := ⟨Tryz.f254.name, by decide, Tryz.func254.trans (congrArg some (by kernel_rfl))⟩
 t0 := Tryz.underlying0
 a0 := Tryz.isAgg0
 z0 := Tryz.sizeOf0
 v0 := Tryz.zeroValue0
 t3 := Tryz.underlying3
 a3 := Tryz.isAgg3
 z3 := Tryz.sizeOf3
 v3 := Tryz.zeroValue3
 t4 := Tryz.underlying4
 a4 := Tryz.isAgg4
 z4 := Tryz.sizeOf4
 v4 := Tryz.zeroValue4
 t5 := Tryz.underlying5
 a5 := Tryz.isAgg5
 z5 := Tryz.sizeOf5
 v5 := Tryz.zeroValue5
 t9 := Tryz.underlying9
 a9 := Tryz.isAgg9
 z9 := Tryz.sizeOf9
 v9 := Tryz.zeroValue9
 t22 := Tryz.underlying44
 a22 := Tryz.isAgg44
 z22 := Tryz.sizeOf44
 v22 := Tryz.zeroValue44
 t23 := Tryz.underlying44
 a23 := Tryz.isAgg44
 z23 := Tryz.sizeOf44
 v23 := Tryz.zeroValue44
 t25 := Tryz.underlying3
 a25 := Tryz.isAgg3
 z25 := Tryz.sizeOf3
 v25 := Tryz.zeroValue3
 t32 := Tryz.underlying43
 a32 := Tryz.isAgg43
 z32 := Tryz.sizeOf43
 v32 := Tryz.zeroValue43
 t35 := Tryz.underlying233
 a35 := Tryz.isAgg233
 z35 := Tryz.sizeOf233
 v35 := Tryz.zeroValue233
 t36 := Tryz.underlying234
 a36 := Tryz.isAgg234
 z36 := Tryz.sizeOf234
 v36 := Tryz.zeroValue234
 t41 := Tryz.underlying238
 a41 := Tryz.isAgg238
 z41 := Tryz.sizeOf238
 v41 := Tryz.zeroValue238
 t44 := Tryz.underlying48
 a44 := Tryz.isAgg48
 z44 := Tryz.sizeOf48
 v44 := Tryz.zeroValue48
 t46 := Tryz.underlying133
 a46 := Tryz.isAgg133
 z46 := Tryz.sizeOf133
 v46 := Tryz.zeroValue133
 t53 := Tryz.underlying267
 a53 := Tryz.isAgg267
 z53 := Tryz.sizeOf267
 v53 := Tryz.zeroValue267
 t57 := Tryz.underlying271
 a57 := Tryz.isAgg271
 z57 := Tryz.sizeOf271
 v57 := Tryz.zeroValue271
 t63 := Tryz.underlying290
 a63 := Tryz.isAgg290
 z63 := Tryz.sizeOf290
 v63 := Tryz.zeroValue290
 t64 := Tryz.underlying147
 a64 := Tryz.isAgg147
 z64 := Tryz.sizeOf147
 v64 := Tryz.zeroValue147 }
end Go.Proofs
/- slices.Sort of a row of ints. -/
namespace Go.MagM
open Go.RowKit
/-- Ints, the least first. -/
def sortL (l : List Int) : List Int := l.mergeSort fun x y => decide (x ≤ y)
theorem sortL_perm (l : List Int) : (sortL l).Perm l := List.mergeSort_perm l _
theorem sortL_len (l : List Int) : (sortL l).length = l.length := (sortL_perm l).length_eq
theorem put_cells (cur : Array Value) (L : List Int) (hl : L.length ≤ cur.size) : ((Sort.putCells (Value.int .i64) 0 L.toArray cur).toList.take L.length) = intCells L := by
 refine List.ext_getElem? fun j => ?_
 rw [List.getElem?_take]
 unfold intCells Sort.putCells
 rw [List.getElem?_map]
 split
 ·rename_i hj
  rw [List.getElem?_eq_getElem hj, Array.getElem?_toList, Array.getElem?_mapIdx, Array.getElem?_eq_getElem (by omega)]
  simp [hj]
 ·rename_i hj
  rw [List.getElem?_eq_none (by omega)]; rfl
theorem put_size (cur : Array Value) (L : List Int) : (Sort.putCells (Value.int .i64) 0 L.toArray cur).size = cur.size := by unfold Sort.putCells; simp
theorem put_noWord (cur : Array Value) (L : List Int) (h : ∀ u ∈ cur.toList, NoWord u) : ∀ u ∈ (Sort.putCells (Value.int .i64) 0 L.toArray cur).toList, NoWord u := by
 intro u hu
 obtain ⟨j, hj⟩ := List.mem_iff_getElem?.1 hu
 rw [Array.getElem?_toList] at hj
 unfold Sort.putCells at hj
 rw [Array.getElem?_mapIdx] at hj
 cases hc : cur[j]? with
 | none => rw [hc] at hj; cases hj
 | some x =>
  rw [hc] at hj
  simp only [Option.map_some, Option.some.injEq] at hj
  split at hj
  ·subst hj; exact NoWord.int _
  ·subst hj
   exact h x (List.mem_of_getElem? (i := j) (by rw [Array.getElem?_toList]; exact hc))
end Go.MagM
namespace Go.Proofs.YtecnnpkpgbbfkaaGreat
open Go.RowKit Go.MagM Go.Maps
/-- A row of ints is put in order; but for its block all is as it was. -/
theorem cvSort_any {lo g c : Nat} {ts : List Int} (w : World) (h : RowN w lo 3 1 (.slice (some ⟨g, 0, none⟩) ts.length c) ts.length (intCells ts)) (hl : ts.length ≤ 1000000) :
  Calls Tryz.prog 157 #[.slice (some ⟨g, 0, none⟩) ts.length c] w fun e w' => e = .returned (.tuple #[]) ∧ RowN w' lo 3 1 (.slice (some ⟨g, 0, none⟩) ts.length c) (sortL ts).length (intCells (sortL ts)) ∧ (∀ k, k < w.heap.size → k ≠ g → w'.heap[k]? = w.heap[k]?) ∧ Below lo w w' ∧ w.heap.size ≤ w'.heap.size := by
 have hown := owns_box h.own
 have hH : Sort.Holds (Value.int .i64) w g 0 ts.toArray := by
  intro j hj
  have hj' : j < ts.length := by simpa using hj
  have hc : (intCells ts)[j]? = some (.int .i64 ts[j]) := by unfold intCells; rw [List.getElem?_map, List.getElem?_eq_getElem hj']; rfl
  rw [Nat.zero_add, getElem!_pos ts.toArray j hj]
  exact ⟨hown.c _ _ hc, hown.f _ _ hc⟩
 obtain ⟨g', cap, cur, e1, hlo, hh, hnc, hcm, hcs, htk, hnw⟩ : ∃ g' cap cur, Value.slice (some ⟨g, 0, none⟩) ts.length c = .slice (some ⟨g', 0, none⟩) ts.length cap ∧ lo ≤ g' ∧ w.heap[g']? = some (.cells cur 3 (0, 0)) ∧ ts.length ≤ cap ∧ cap ≤ maxLen ∧ cur.size = cap * 1 ∧ cur.toList.take (ts.length * 1) = intCells ts ∧ ∀ u ∈ cur.toList, NoWord u := by
  rcases h.2 with ⟨h1, -⟩ | h1
  ·cases h1
  ·exact h1
 simp only [Value.slice.injEq, Option.some.injEq, Addr.mk.injEq, and_true, true_and] at e1
 obtain ⟨rfl, rfl⟩ := e1
 have hlt : g < w.heap.size := (Array.getElem?_eq_some_iff.1 hh).1
 have hcon := AnyM.slices_Sort_int Tryz.mSort g 0 c ts w hH hlt (by omega)
 change Calls Tryz.prog 157 _ _ _ at hcon
 refine hcon.mono ?_
 rintro e w' ⟨rfl, n, os, rfl⟩
 obtain ⟨L, hL⟩ : ∃ L, ts.mergeSort (fun x y => decide (x ≤ y)) = L := ⟨_, rfl⟩
 have hLe : sortL ts = L := hL
 have hLl : L.length = ts.length := by rw [← hLe]; exact sortL_len ts
 rw [hL, hLe]
 have hsz : (Sort.putRow (Value.int .i64) (Sort.ahead w n) g 0 L.toArray).heap.size = w.heap.size := by unfold Sort.putRow Sort.mapBlock Sort.ahead; simp
 have hk : ∀ k, k < w.heap.size → k ≠ g → (Sort.grow (Sort.putRow (Value.int .i64) (Sort.ahead w n) g 0 L.toArray) os).heap[k]? = w.heap[k]? := by
  intro k hk hne
  show ((Sort.putRow (Value.int .i64) (Sort.ahead w n) g 0 L.toArray).heap ++ os)[k]? = _
  rw [Array.getElem?_append_left (by omega)]
  unfold Sort.putRow Sort.mapBlock Sort.ahead
  simp only [Array.getElem?_modify]
  rw [if_neg (fun e => hne e.symm)]
 have hg : (Sort.grow (Sort.putRow (Value.int .i64) (Sort.ahead w n) g 0 L.toArray) os).heap[g]? = some (.cells (Sort.putCells (Value.int .i64) 0 L.toArray cur) 3 (0, 0)) := by
  show ((Sort.putRow (Value.int .i64) (Sort.ahead w n) g 0 L.toArray).heap ++ os)[g]? = _
  rw [Array.getElem?_append_left (by omega)]
  unfold Sort.putRow Sort.mapBlock Sort.ahead
  simp only [Array.getElem?_modify]
  rw [if_pos trivial, hh]; rfl
 refine ⟨rfl, ⟨by rw [intCells_len, Nat.mul_one], .inr ⟨g, c, _, by rw [hLl], hlo, hg, by omega, hcm, by rw [put_size]; exact hcs, ?_, put_noWord cur L hnw⟩⟩, hk, ⟨rfl, rfl, rfl, ?_, fun k hk2 => hk k (by omega) (by omega)⟩, ?_⟩
 ·rw [Nat.mul_one]; exact put_cells cur L (by omega)
 ·show w.heap.size ≤ ((Sort.putRow (Value.int .i64) (Sort.ahead w n) g 0 L.toArray).heap ++ os).size
  rw [Array.size_append]; omega
 ·show w.heap.size ≤ ((Sort.putRow (Value.int .i64) (Sort.ahead w n) g 0 L.toArray).heap ++ os).size
  rw [Array.size_append]; omega
end Go.Proofs.YtecnnpkpgbbfkaaGreat
/- cavity: is a rim cut? -/
namespace Go.Proofs.YtecnnpkpgbbfkaaGreat
open Go.RowKit Go.MagM Go.Maps
def valS (s : SideM) : Value := .agg #[.int .i64 s.a, .int .i64 s.b, .int .i64 s.u, .int .i64 s.i, .bool s.f]
/-- Is what lies behind a side in conflict, and hidden by a fault? -/
def cutQ2 (P : List (Int × Int)) (S : List TriM) (p : Int × Int) (s : SideM) : Bool := s.f && confT P S p s.u
set_option maxRecDepth 100000 in
set_option maxHeartbeats 8000000 in
theorem cvDig1_any {mb pb pc xm xp : Nat} {ta : Option Addr} {tc : Nat} {P : List (Int × Int)} {S : List TriM} (s : SideM) (p0 p1 : Int) (w : World) (h : MeshR w mb pb pc ta tc P S) (hP : InPs P) (hp : InP p0 ∧ InP p1)
  (hm : w.cell? ⟨xm, 0, none⟩ = some (.pointer (some ⟨mb, 0, none⟩))) (hx : Box w xp [.int .i64 p0, .int .i64 p1]) (hs : ∃ u : Nat, s.u = (u : Int) ∧ u < S.length) :
  Calls Tryz.prog 156 #[valS s, .pointer (some ⟨xm, 0, none⟩), .pointer (some ⟨xp, 0, none⟩)] w fun e w' => e = .returned (.bool (cutQ2 P S (p0, p1) s)) ∧ Below w.heap.size w w' := by
 obtain ⟨sa, sb, su, si, sf⟩ := s
 obtain ⟨u, hu, hul⟩ := hs
 simp only [] at hu
 subst hu
 obtain ⟨U, hU⟩ : ∃ U, S[u]? = some U := ⟨_, List.getElem?_eq_getElem hul⟩
 have hcf : confT P S (p0, p1) (u : Int) = conflictM P U (p0, p1) := by unfold confT; rw [Int.toNat_natCast, hU]
 unfold valS cutQ2
 simp only []
 rw [hcf]
 obtain ⟨w1, hw1, ps, hb1, hs1⟩ := new_box w _ rfl [.int .i64 sa, .int .i64 sb, .int .i64 (u : Int), .int .i64 si, .bool sf] 211
 obtain ⟨q, hq⟩ : ∃ q, conflictM P U (p0, p1) = q := ⟨_, rfl⟩
 have HC := Lib.hid (cvConflict_any u U p0 p1 w1 (h.below hb1) hP hp hU)
 rw [hq] at HC
 rw [hq]
 have z2 := ps.c 2 _ rfl; have z4 := ps.c 4 _ rfl
 have m1 := (hb1.cell (World.block_lt_of_cell? _ _ hm)).trans hm
 have x1 := hx.below hb1
 have x10 := x1.c 0 _ rfl; have x11 := x1.c 1 _ rfl
 have HB1 := Lib.hid hb1
 clear h hP hp hm hx hul hU hcf hq ps hb1 hs1 x1
 cases sf
 ·go_enter Tryz.func156, Tryz.ntmps156
  go_wp2
  go_ret
  exact ⟨rfl, HB1.out⟩
 ·go_enter Tryz.func156, Tryz.ntmps156
  go_wp2_with fail
  refine HC.out.mono ?_
  rintro e w2 ⟨rfl, hb2⟩
  have HB2 := Lib.hid (HB1.out.trans (hb2.mono HB1.out.size))
  clear hb2
  go_wp2
  go_ret
  exact ⟨rfl, HB2.out⟩
set_option maxRecDepth 100000 in
set_option maxHeartbeats 8000000 in
theorem cvIndexF_any {base xm xp : Nat} (l : List SideM) (v : Value) (q : SideM → Bool) (w : World) (hrow : RowN w base 211 5 v l.length (sideCells l)) (hl : l.length ≤ 1000000)
  (hf : ∀ W : World, Below w.heap.size w W → ∀ s ∈ l, Calls Tryz.prog 156 #[valS s, .pointer (some ⟨xm, 0, none⟩), .pointer (some ⟨xp, 0, none⟩)] W fun e w' => e = .returned (.bool (q s)) ∧ Below W.heap.size W w') :
  Calls Tryz.prog 203 #[v, .func (.func 156) #[] #[.pointer (some ⟨xm, 0, none⟩), .pointer (some ⟨xp, 0, none⟩)]] w fun e w' => ∃ r : Int, e = .returned (.int .i64 r) ∧ decide (0 ≤ r) = l.any q ∧ Below w.heap.size w w' := by
 obtain ⟨len, hlen⟩ : ∃ len, l.length = len := ⟨_, rfl⟩
 rw [hlen] at hrow hl
 obtain ⟨ao, c, rfl⟩ : ∃ ao c, v = .slice ao len c := by
  rcases hrow.2 with ⟨h1, h2⟩ | ⟨g, cap, cur, h1, -⟩
  ·exact ⟨_, _, by rw [h1, h2]⟩
  ·exact ⟨_, _, h1⟩
 have HROW := Lib.hid hrow; have HLEN := Lib.hid hlen; have HF := Lib.hid hf
 clear hrow hlen hf
 go_enter Tryz.func203, Tryz.ntmps203
 go_wp2
 go_loopw [8] (fun iv wr => ∃ n : Nat, n ≤ len ∧ iv = .int .i64 (n : Int) ∧ (∀ s ∈ l.take n, q s = false) ∧ Below w.heap.size w wr) (fun iv _ => len - (intOf iv).toNat)
 case atStart => exact ⟨0, Nat.zero_le _, rfl, by simp, Below.refl _ _⟩
 case round =>
  obtain ⟨n, hn, rfl, hno, hb⟩ := hrel
  by_cases hlt : n < len
  ·have e1 : decide ((n : Int) < (len : Int)) = true := decide_eq_true (by omega)
   have e2 : decide (n < len) = true := decide_eq_true hlt
   obtain ⟨g, rfl⟩ : ∃ g, ao = some ⟨g, 0, none⟩ := by
    rcases HROW.out.2 with ⟨h1, h2⟩ | ⟨g, cap, cur, h1, -⟩
    ·omega
    ·exact ⟨g, by injection h1⟩
   obtain ⟨s, hs⟩ : ∃ s, l[n]? = some s := ⟨_, List.getElem?_eq_getElem (by have := HLEN.out; omega)⟩
   have hsl := List.mem_of_getElem? hs
   have hr := HROW.out.below hb
   have c0 : wr.cell? ⟨g, n * 5, none⟩ = some (.int .i64 s.a) := hr.cells rfl _ _ (by rw [show n * 5 = n * 5 + 0 by omega, sideCells_get l n 0 s hs (by omega)]; rfl)
   have c1 : wr.cell? ⟨g, n * 5 + 1, none⟩ = some (.int .i64 s.b) := hr.cells rfl _ _ (by rw [sideCells_get l n 1 s hs (by omega)]; rfl)
   have c2 : wr.cell? ⟨g, n * 5 + 2, none⟩ = some (.int .i64 s.u) := hr.cells rfl _ _ (by rw [sideCells_get l n 2 s hs (by omega)]; rfl)
   have c3 : wr.cell? ⟨g, n * 5 + 3, none⟩ = some (.int .i64 s.i) := hr.cells rfl _ _ (by rw [sideCells_get l n 3 s hs (by omega)]; rfl)
   have c4 : wr.cell? ⟨g, n * 5 + 4, none⟩ = some (.bool s.f) := hr.cells rfl _ _ (by rw [sideCells_get l n 4 s hs (by omega)]; rfl)
   have HC := Lib.hid (HF.out wr hb s hsl)
   have i1 : (0 : Int) ≤ (n : Int) := by omega
   have i2 : (n : Int) < (len : Int) := by omega
   obtain ⟨qs, hqs⟩ : ∃ z, q s = z := ⟨_, rfl⟩
   rw [hqs] at HC
   obtain ⟨sa, sb, su, si, sf⟩ := s
   unfold valS at HC
   simp only [] at c0 c1 c2 c3 c4 HC
   have HNO := Lib.hid hno; have HB := Lib.hid hb; have HS := Lib.hid hs; have HQ := Lib.hid hqs; have HSL := Lib.hid hsl
   clear hno hb hr hs hqs hsl
   go_wp2_with fail
   refine HC.out.mono ?_
   rintro e w2 ⟨rfl, hb2⟩
   have HB2 := Lib.hid (HB.out.trans (hb2.mono HB.out.size))
   clear hb2 c0 c1 c2 c3 c4
   cases qs
   ·go_wp2
    refine ⟨⟨n + 1, by omega, by go_num, fun s' hs' => ?_, HB2.out⟩, by simp [intOf]; omega⟩
    rw [List.take_add_one, HS.out] at hs'
    rcases List.mem_append.1 hs' with h1 | h1
    ·exact HNO.out s' h1
    ·simp at h1; subst h1; exact HQ.out
   ·go_wp2
    go_ret
    refine ⟨_, rfl, ?_, HB2.out⟩
    rw [List.any_eq_true.2 ⟨_, HSL.out, HQ.out⟩]; exact decide_eq_true (by omega)
  ·obtain rfl : n = len := by omega
   have e1 : decide ((n : Int) < (n : Int)) = false := decide_eq_false (by omega)
   have HNO := Lib.hid hno; have HB := Lib.hid hb
   clear hno hb
   go_wp2
   go_ret
   refine ⟨_, rfl, ?_, HB.out⟩
   have h1 := HNO.out
   rw [← HLEN.out, List.take_length] at h1
   rw [List.any_eq_false.2 (fun s hs => by rw [h1 s hs]; simp)]; decide
set_option maxRecDepth 100000 in
set_option maxHeartbeats 8000000 in
theorem cvContains_any {base xm xp : Nat} (l : List SideM) (v : Value) (q : SideM → Bool) (w : World) (hrow : RowN w base 211 5 v l.length (sideCells l)) (hl : l.length ≤ 1000000)
  (hf : ∀ W : World, Below w.heap.size w W → ∀ s ∈ l, Calls Tryz.prog 156 #[valS s, .pointer (some ⟨xm, 0, none⟩), .pointer (some ⟨xp, 0, none⟩)] W fun e w' => e = .returned (.bool (q s)) ∧ Below W.heap.size W w') :
  Calls Tryz.prog 155 #[v, .func (.func 156) #[] #[.pointer (some ⟨xm, 0, none⟩), .pointer (some ⟨xp, 0, none⟩)]] w fun e w' => e = .returned (.bool (l.any q)) ∧ Below w.heap.size w w' := by
 have HC := Lib.hid (cvIndexF_any l v q w hrow hl hf)
 obtain ⟨r0, hr0⟩ : ∃ z, l.any q = z := ⟨_, rfl⟩
 rw [hr0] at HC ⊢
 clear hrow hl hf hr0
 go_enter Tryz.func155, Tryz.ntmps155
 go_wp2_with fail
 refine HC.out.mono ?_
 rintro e w2 ⟨r, rfl, hr, hb2⟩
 have HB2 := Lib.hid hb2
 clear hb2
 go_wp2
 go_ret
 exact ⟨rfl, HB2.out⟩
end Go.Proofs.YtecnnpkpgbbfkaaGreat
/- cavity's spread. Written by tools/cav5.py. -/
namespace Go.Proofs.YtecnnpkpgbbfkaaGreat
open Go.RowKit Go.MagM Go.Maps
theorem cvSet_size (g : Nat) : ∀ (xs : List Value) (i : Nat) (w : World), (setAll w g i xs).heap.size = w.heap.size
 | [], _, _ => rfl
 | x :: xs, i, w => by rw [setAll, cvSet_size g xs]; simp
theorem takeM_grows (P : List (Int × Int)) (T : TriM) (t : Int) (ts : List Int) : ts.length ≤ (takeM P T t ts).length := by
 unfold takeM; split
 ·rw [List.length_append]; omega
 ·exact Nat.le_refl _
theorem step_grows (P : List (Int × Int)) (S : List TriM) (p : Int × Int) (T : TriM) (i : Nat) (ts : List Int) : ts.length ≤ (stepM P S p T i ts).length := by
 unfold stepM; split
 ·unfold takeS; split
  ·exact takeM_grows _ _ _ _
  ·exact Nat.le_refl _
 ·exact Nat.le_refl _
theorem inner_grows (P : List (Int × Int)) (S : List TriM) (p : Int × Int) (T : TriM) (ts : List Int) : ∀ n, ts.length ≤ (innerM P S p T n ts).length
 | 0 => Nat.le_refl _
 | n + 1 => Nat.le_trans (inner_grows P S p T ts n) (step_grows _ _ _ _ _ _)
set_option maxRecDepth 100000 in
set_option maxHeartbeats 16000000 in
theorem cvSpread_any {w0 : World} {mb pb pc hb b : Nat} {ta : Option Addr} {tc : Nat} {P : List (Int × Int)} {S : List TriM} {v : Value} {ts : List Int} (p0 p1 : Int) (w : World) (h : MeshR w0 mb pb pc ta tc P S) (hP : InPs P) (hp : InP p0 ∧ InP p1) (hN : Nexts S) (hB : Below w0.heap.size w0 w) (hH : HoleR w w0.heap.size hb mb b v ts) (hin : InS S ts) (hmx : S.length < 1000000) :
  Calls Tryz.prog 153 #[.pointer (some ⟨hb, 0, none⟩), .agg #[.int .i64 p0, .int .i64 p1]] w fun e w' => e = .returned (.tuple #[]) ∧ (∃ v', HoleR w' w0.heap.size hb mb b v' (spreadM P S (p0, p1) S.length 0 ts)) ∧ Below w0.heap.size w0 w' := by
 obtain ⟨w1, hw1, pp, hb1, hs1⟩ := new_box w _ rfl [.int .i64 p0, .int .i64 p1] 33
 have H := Lib.hid h; have HP := Lib.hid hP; have HPP := Lib.hid hp; have HN := Lib.hid hN; have HMX := Lib.hid hmx
 have HB1 := Lib.hid (hB.trans (hb1.mono hB.size)); have HH1 := Lib.hid (hH.below hb1); have HIN := Lib.hid hin; have PP1 := Lib.hid pp
 have HAP := Lib.hid (show w.heap.size < w1.heap.size ∧ w.heap.size ≠ hb ∧ w.heap.size ≠ b ∧ v.ownBlock ≠ some w.heap.size from ⟨by omega, by have := hH.box.lt; omega, by have := hH.map.lt; omega, fun e => by have := (hH.row.lt _ e).2; omega⟩)
 obtain ⟨R, hR⟩ : ∃ R, spreadM P S (p0, p1) S.length 0 ts = R := ⟨_, rfl⟩
 rw [hR]
 have HR := Lib.hid hR
 obtain ⟨len, hlen⟩ : ∃ len, S.length = len := ⟨_, rfl⟩
 have HLEN := Lib.hid hlen
 rw [hlen] at HR
 clear h hP hp hN hB hH hin hmx hb1 hs1 pp hR hlen
 go_enter Tryz.func153, Tryz.ntmps153
 go_wp2
 clear hw1
 go_loopw [4] (fun iv wr => ∃ (n : Nat) (us : List Int) (vv : Value), iv = .int .i64 (n : Int) ∧ n ≤ us.length ∧ HoleR wr w0.heap.size hb mb b vv us ∧ InS S us ∧ spreadM P S (p0, p1) (len - n) n us = R ∧ KeepH w1 wr hb b v vv ∧ Below w0.heap.size w0 wr) (fun iv _ => len - (intOf iv).toNat)
 case atStart => exact ⟨0, ts, v, rfl, Nat.zero_le _, HH1.out, HIN.out, HR.out, KeepH.of_below (Below.refl _ _), HB1.out⟩
 case round =>
  obtain ⟨n, us, vv, rfl, hn, hh, hin, hr, hk, hbw⟩ := hrel
  obtain ⟨ul, hul⟩ : ∃ ul, us.length = ul := ⟨_, rfl⟩
  obtain ⟨ao, c, rfl⟩ : ∃ ao c, vv = .slice ao ul c := by
   rcases hh.row.2 with ⟨h1, h2⟩ | ⟨g, cap, cur, h1, -⟩
   ·exact ⟨_, _, by rw [h1, ← hul, h2]⟩
   ·exact ⟨_, _, by rw [← hul]; exact h1⟩
  have hle := hin.le
  rw [HLEN.out] at hle
  have b1 := hh.box.c1
  by_cases hlt : n < ul
  ·have e1 : decide ((n : Int) < (ul : Int)) = true := decide_eq_true (by omega)
   have e2 : decide (n < ul) = true := decide_eq_true hlt
   obtain ⟨g, rfl⟩ : ∃ g, ao = some ⟨g, 0, none⟩ := by
    rcases hh.row.2 with ⟨h1, h2⟩ | ⟨g, cap, cur, h1, -⟩
    ·omega
    ·exact ⟨g, by injection h1⟩
   obtain ⟨z, hz⟩ : ∃ z, us[n]? = some z := ⟨_, List.getElem?_eq_getElem (by omega)⟩
   obtain ⟨t, rfl, htl⟩ := hin.is z (List.mem_of_getElem? hz)
   obtain ⟨T, hT⟩ : ∃ T, S[t]? = some T := ⟨_, List.getElem?_eq_getElem htl⟩
   have hcell : wr.cell? ⟨g, n, none⟩ = some (.int .i64 (t : Int)) := hh.row.cells rfl n _ (by unfold intCells; rw [List.getElem?_map, hz]; rfl)
   have hsh := H.out.short.2
   rw [HLEN.out] at htl hsh
   obtain ⟨v0, v1, v2, n0, n1, n2, f0, f1, f2⟩ := T
   have SS : ∀ w', Below wr.heap.size wr w' → ∃ tb, ta = some ⟨tb, 0, none⟩ ∧ w'.cell? ⟨hb, 0, none⟩ = some (.pointer (some ⟨mb, 0, none⟩)) ∧ w'.cell? ⟨hb, 1, none⟩ = some (.slice (some ⟨g, 0, none⟩) ul c) ∧ w'.cell? ⟨mb, 1, none⟩ = some (.slice (some ⟨tb, 0, none⟩) len tc) ∧ w'.cell? ⟨g, n, none⟩ = some (.int .i64 (t : Int)) ∧ w'.cell? ⟨tb, t * 9, none⟩ = some (.int .i64 v0) ∧ w'.cell? ⟨tb, t * 9 + 1, none⟩ = some (.int .i64 v1) ∧ w'.cell? ⟨tb, t * 9 + 2, none⟩ = some (.int .i64 v2) ∧ w'.cell? ⟨tb, t * 9 + 3, none⟩ = some (.int .i64 n0) ∧ w'.cell? ⟨tb, t * 9 + 4, none⟩ = some (.int .i64 n1) ∧ w'.cell? ⟨tb, t * 9 + 5, none⟩ = some (.int .i64 n2) ∧ w'.cell? ⟨tb, t * 9 + 6, none⟩ = some (.bool f0) ∧ w'.cell? ⟨tb, t * 9 + 7, none⟩ = some (.bool f1) ∧ w'.cell? ⟨tb, t * 9 + 8, none⟩ = some (.bool f2) := by
    intro w' hw
    have q1 := H.out.below (hbw.trans (hw.mono hbw.size))
    have k1 := q1.box.c1
    rw [HLEN.out] at k1
    obtain ⟨tb, hta, -, k2, k3, k4, k5, k6, k7, k8, k9, k10⟩ := q1.tris.get hT
    subst hta
    exact ⟨tb, rfl, (hh.box.below hw).c0, (hh.box.below hw).c1, k1, (hw.cell (World.block_lt_of_cell? _ _ hcell)).trans hcell, k2, k3, k4, k5, k6, k7, k8, k9, k10⟩
   obtain ⟨tb, hta, -⟩ := SS wr (Below.refl _ _)
   subst hta
   have SS := fun (w' : World) (hw : Below wr.heap.size wr w') => (by obtain ⟨tb', e, hs⟩ := SS w' hw; cases e; exact hs : w'.cell? ⟨hb, 0, none⟩ = some (.pointer (some ⟨mb, 0, none⟩)) ∧ w'.cell? ⟨hb, 1, none⟩ = some (.slice (some ⟨g, 0, none⟩) ul c) ∧ w'.cell? ⟨mb, 1, none⟩ = some (.slice (some ⟨tb, 0, none⟩) len tc) ∧ w'.cell? ⟨g, n, none⟩ = some (.int .i64 (t : Int)) ∧ w'.cell? ⟨tb, t * 9, none⟩ = some (.int .i64 v0) ∧ w'.cell? ⟨tb, t * 9 + 1, none⟩ = some (.int .i64 v1) ∧ w'.cell? ⟨tb, t * 9 + 2, none⟩ = some (.int .i64 v2) ∧ w'.cell? ⟨tb, t * 9 + 3, none⟩ = some (.int .i64 n0) ∧ w'.cell? ⟨tb, t * 9 + 4, none⟩ = some (.int .i64 n1) ∧ w'.cell? ⟨tb, t * 9 + 5, none⟩ = some (.int .i64 n2) ∧ w'.cell? ⟨tb, t * 9 + 6, none⟩ = some (.bool f0) ∧ w'.cell? ⟨tb, t * 9 + 7, none⟩ = some (.bool f1) ∧ w'.cell? ⟨tb, t * 9 + 8, none⟩ = some (.bool f2))
   have i1 : (0 : Int) ≤ (n : Int) := by omega
   have i2 : (n : Int) < (ul : Int) := by omega
   have i3 : (0 : Int) ≤ (t : Int) := by omega
   have i4 : (t : Int) < (len : Int) := by omega
   have HHH := Lib.hid hh; have HI := Lib.hid hin; have HRR := Lib.hid hr; have HK := Lib.hid hk; have HBW := Lib.hid hbw; have HZ := Lib.hid hz; have HT := Lib.hid hT; have HUL := Lib.hid hul
   have SSH := Lib.hid SS
   clear hh hin hr hk hbw hz hT hul hcell SS
   go_wp2
   obtain ⟨wd, hwd⟩ : ∃ wd, wr.drew = wd := ⟨_, rfl⟩
   have hBd : Below wr.heap.size wr wd := by rw [← hwd]; exact (Below.refl _ _).drew'
   have hsd : wr.heap.size = wd.heap.size := by rw [← hwd]; rfl
   obtain ⟨w4, hw4, pz, hb4, hs4⟩ := new_box wd _ rfl [.int .i64 0, .int .i64 0, .int .i64 0, .int .i64 0, .int .i64 0, .int .i64 0, .bool false, .bool false, .bool false] 41
   obtain ⟨w5, hw5⟩ : ∃ w5, setAll w4 wd.heap.size 0 [.int .i64 v0, .int .i64 v1, .int .i64 v2, .int .i64 n0, .int .i64 n1, .int .i64 n2, .bool f0, .bool f1, .bool f2] = w5 := ⟨_, rfl⟩
   have pt5 : Box w5 wd.heap.size [.int .i64 v0, .int .i64 v1, .int .i64 v2, .int .i64 n0, .int .i64 n1, .int .i64 n2, .bool f0, .bool f1, .bool f2] := by rw [← hw5]; exact pz.setAll _ rfl
   have hB4 : Below wr.heap.size wr w4 := hBd.trans (hb4.mono (by omega))
   have hB5 : Below wr.heap.size wr w5 := by rw [← hw5]; exact below_setAll hB4 (by omega) _
   have SB := SSH.out
   have hs5 : w5.heap.size = wd.heap.size + 1 := by rw [← hw5]; exact (cvSet_size _ _ 0 _).trans hs4
   have PT5 := Lib.hid pt5; have HB5 := Lib.hid hB5; have HSD := Lib.hid (And.intro hsd hs5)
   clear hsd hs4 hs5 pt5
   refine wp_region_noPanic ?_
   refine wp_region_held_drew (S := fun w' => w'.cell? ⟨hb, 0, none⟩ = some (.pointer (some ⟨mb, 0, none⟩)) ∧ w'.cell? ⟨hb, 1, none⟩ = some (.slice (some ⟨g, 0, none⟩) ul c) ∧ w'.cell? ⟨mb, 1, none⟩ = some (.slice (some ⟨tb, 0, none⟩) len tc) ∧ w'.cell? ⟨g, n, none⟩ = some (.int .i64 (t : Int)) ∧ w'.cell? ⟨tb, t * 9, none⟩ = some (.int .i64 v0) ∧ w'.cell? ⟨tb, t * 9 + 1, none⟩ = some (.int .i64 v1) ∧ w'.cell? ⟨tb, t * 9 + 2, none⟩ = some (.int .i64 v2) ∧ w'.cell? ⟨tb, t * 9 + 3, none⟩ = some (.int .i64 n0) ∧ w'.cell? ⟨tb, t * 9 + 4, none⟩ = some (.int .i64 n1) ∧ w'.cell? ⟨tb, t * 9 + 5, none⟩ = some (.int .i64 n2) ∧ w'.cell? ⟨tb, t * 9 + 6, none⟩ = some (.bool f0) ∧ w'.cell? ⟨tb, t * 9 + 7, none⟩ = some (.bool f1) ∧ w'.cell? ⟨tb, t * 9 + 8, none⟩ = some (.bool f2)) (by kernel_rfl) (SB _ (Below.refl _ _).drew') (fun hHeld => ?_)
   rw [hwd] at hHeld ⊢
   refine rU 0 _ _ ?_
   (try simp only [Act.put]);try simp only [sA,sZ,sS]
   refine rU 1 _ _ ?_
   (try simp only [Act.put]);try simp only [sA,sZ,sS]
   refine rU 2 _ _ ?_
   (try simp only [Act.put]);try simp only [sA,sZ,sS]
   refine rU 3 _ _ ?_
   (try simp only [Act.put]);try simp only [sA,sZ,sS]
   refine rU 4 _ _ ?_
   (try simp only [Act.put]);try simp only [sA,sZ,sS]
   refine rU 5 _ _ ?_
   (try simp only [Act.put]);try simp only [sA,sZ,sS]
   refine rU 6 _ _ ?_
   (try simp only [Act.put]);try simp only [sA,sZ,sS]
   refine rU 7 _ _ ?_
   (try simp only [Act.put]);try simp only [sA,sZ,sS]
   refine rU 8 _ _ ?_
   (try simp only [Act.put]);try simp only [sA,sZ,sS]
   refine rU 9 _ _ ?_
   (try simp only [Act.put]);try simp only [sA,sZ,sS]
   refine rU 10 _ _ ?_
   (try simp only [Act.put]);try simp only [sA,sZ,sS]
   refine rU 11 _ _ ?_
   (try simp only [Act.put]);try simp only [sA,sZ,sS]
   refine rU 12 _ _ ?_
   (try simp only [Act.put]);try simp only [sA,sZ,sS]
   refine rU 13 _ _ ?_
   (try simp only [Act.put]);try simp only [sA,sZ,sS]
   refine rU 14 _ _ ?_
   (try simp only [Act.put]);try simp only [sA,sZ,sS]
   refine rU 15 _ _ ?_
   (try simp only [Act.put]);try simp only [sA,sZ,sS]
   refine reg_call 16 ?_ (by kernel_rfl) ?_ (fun K hK => ?_);rotate_left 1
   ·simp only [gA,gS,gZ]; exact rfl
   go_simp
   try rw [hw4]
   refine hK.out _ _ (SB _ hB4) (fun hHeld => ?_)
   clear hK K
   (try simp only [Act.put]);try simp only [sA,sZ,sS]
   refine reg_call 17 ?_ (by kernel_rfl) ?_ (fun K hK => ?_);rotate_left 1
   ·simp only [gA,gS,gZ]; exact rfl
   refine wanted_go rfl ?_
   refine wp_store_box _ _ _ rfl [.int .i64 v0, .int .i64 v1, .int .i64 v2, .int .i64 n0, .int .i64 n1, .int .i64 n2, .bool f0, .bool f1, .bool f2] pz rfl rfl (by kernel_rfl) (by simp) rfl hw5 ?_
   refine hK.out _ _ (SB _ hB5) (fun hHeld => ?_)
   clear hK K
   (try simp only [Act.put]);try simp only [sA,sZ,sS]
   refine wpAnyH_done (by kernel_rfl) ?_ _
   refine NoPanic.normal ?_
   have d3 := PT5.out.c 3 _ rfl; have d4 := PT5.out.c 4 _ rfl; have d5 := PT5.out.c 5 _ rfl
   clear SB hw4 hw5 pz hB4 hB5 hBd hwd hb4 i1 i2 i3 i4
   obtain ⟨T, hTT⟩ : ∃ T : TriM, T = ⟨v0, v1, v2, n0, n1, n2, f0, f1, f2⟩ := ⟨_, rfl⟩
   have HTT := Lib.hid hTT
   rw [← hTT] at HT
   clear hTT
   go_wp2
   clear d3 d4 d5
   go_loopw [35] (fun iv wr => ∃ (i : Nat) (vi : Value), i ≤ 3 ∧ iv = .int .i64 (i : Int) ∧ HoleR wr w0.heap.size hb mb b vi (innerM P S (p0, p1) T i us) ∧ KeepH w5 wr hb b (.slice (some ⟨g, 0, none⟩) ul c) vi ∧ Below w0.heap.size w0 wr) (fun iv _ => 3 - (intOf iv).toNat)
   case atStart => exact ⟨0, _, Nat.zero_le _, rfl, HHH.out.below HB5.out, KeepH.of_below (Below.refl _ _), HBW.out.trans (HB5.out.mono HBW.out.size)⟩
   case round =>
    obtain ⟨i, vi, hi, rfl, hhi, hki, hbi⟩ := hrel
    have HHI := Lib.hid hhi; have HKI := Lib.hid hki; have HBI := Lib.hid hbi
    clear hhi hki hbi
    by_cases hi3 : i < 3
    ·have PTI := Lib.hid (show Box wr wd.heap.size [.int .i64 v0, .int .i64 v1, .int .i64 v2, .int .i64 n0, .int .i64 n1, .int .i64 n2, .bool f0, .bool f1, .bool f2] from by
      have hl := HHH.out.box.lt; have hm := HHH.out.map.lt; have hs := HSD.out
      exact _root_.Go.Proofs.YtecnnpkpgbbfkaaGreat.Box.keepH PT5.out HKI.out (by omega) (by omega) (by omega) (fun e => by have := (HHH.out.row.lt _ e).2; omega))
     have PPI := Lib.hid (show Box wr w.heap.size [.int .i64 p0, .int .i64 p1] from
      _root_.Go.Proofs.YtecnnpkpgbbfkaaGreat.Box.keepH PP1.out ((HK.out.trans (KeepH.of_below HB5.out)).trans HKI.out) HAP.out.1 HAP.out.2.1 HAP.out.2.2.1 HAP.out.2.2.2)
     obtain rfl | rfl | rfl : i = 0 ∨ i = 1 ∨ i = 2 := by omega
     ·obtain ⟨u, hu, hul⟩ := HN.out t T HT.out 0 (by omega)
      obtain ⟨U, hU⟩ : ∃ U, S[u]? = some U := ⟨_, List.getElem?_eq_getElem hul⟩
      rw [HTT.out] at hu
      obtain rfl : n0 = (u : Int) := hu
      have hnu : T.n 0 = (u : Int) := by rw [HTT.out]; rfl
      have hfi : T.f 0 = f0 := by rw [HTT.out]; rfl
      have hct : confT P S (p0, p1) (u : Int) = conflictM P U (p0, p1) := by unfold confT; rw [Int.toNat_natCast, hU]
      have htk : takeS P S (u : Int) (innerM P S (p0, p1) T 0 us) = takeM P U (u : Int) (innerM P S (p0, p1) T 0 us) := by unfold takeS; rw [Int.toNat_natCast, hU]
      have hur : -1000000 ≤ (u : Int) ∧ (u : Int) ≤ 1000000 := by have := HMX.out; omega
      have HSTEP := Lib.hid (show innerM P S (p0, p1) T (0 + 1) us = if f0 = false ∧ (u : Int) ∉ innerM P S (p0, p1) T 0 us ∧ conflictM P U (p0, p1) = true then takeM P U (u : Int) (innerM P S (p0, p1) T 0 us) else innerM P S (p0, p1) T 0 us by
       show stepM P S (p0, p1) T 0 (innerM P S (p0, p1) T 0 us) = _
       unfold stepM; rw [hnu, hfi, hct, htk])
      have HU := Lib.hid hU
      obtain ⟨q1, hq1⟩ : ∃ q, decide ((u : Int) ∈ innerM P S (p0, p1) T 0 us) = q := ⟨_, rfl⟩
      obtain ⟨q2, hq2⟩ : ∃ q, conflictM P U (p0, p1) = q := ⟨_, rfl⟩
      have HHO := Lib.hid (show ∀ W : World, Below wr.heap.size wr W → Calls Tryz.prog 200 #[.pointer (some ⟨hb, 0, none⟩), .int .i64 (u : Int)] W fun e w' => e = .returned (.bool q1) ∧ Below W.heap.size W w' from fun W hW => by have := cvHolds_any hb b _ (u : Int) W (HHI.out.below hW).box.c2 (HHI.out.below hW).map hur; rw [hq1] at this; exact this)
      have HCO := Lib.hid (show ∀ W : World, Below wr.heap.size wr W → Calls Tryz.prog 32 #[.pointer (some ⟨mb, 0, none⟩), .int .i64 (u : Int), .agg #[.int .i64 p0, .int .i64 p1]] W fun e w' => e = .returned (.bool q2) ∧ Below W.heap.size W w' from fun W hW => by have := cvConflict_any u U p0 p1 W (H.out.below (HBI.out.trans (hW.mono HBI.out.size))) HP.out HPP.out HU.out; rw [hq2] at this; exact this)
      have HQ1 := Lib.hid hq1; have HQ2 := Lib.hid hq2
      have K8 := Lib.hid (show ∀ w' : World, Below wr.heap.size wr w' → w'.cell? ⟨hb, 0, none⟩ = some (.pointer (some ⟨mb, 0, none⟩)) ∧ w'.cell? ⟨w.heap.size, 0, none⟩ = some (.int .i64 p0) ∧ w'.cell? ⟨w.heap.size, 1, none⟩ = some (.int .i64 p1) ∧ w'.cell? ⟨wd.heap.size, 6, none⟩ = some (.bool f0) from fun w' hw => ⟨(HHI.out.below hw).box.c0, (PPI.out.below hw).c 0 _ rfl, (PPI.out.below hw).c 1 _ rfl, (PTI.out.below hw).c 6 _ rfl⟩)
      have ir : ∀ w : World, (Instr.index 38 (.agg #[.int .i64 (u : Int), .int .i64 n1, .int .i64 n2]) (.int .i64 0)).run Tryz.prog w = .ok (.int .i64 (u : Int)) w := fun w => index3v_run ⟨(u : Int), n1, n2, 0, 0, 0, false, false, false⟩ 0 (by omega) w
      clear hul hU hnu hfi hct htk hur hq1 hq2
      cases f0
      ·cases q1
       ·have HNI := Lib.hid (of_decide_eq_false HQ1.out)
        cases q2
        ·go_wp2
         refine wp_region_noPanic ?_
         refine wp_region_held_drew (S := fun w' => w'.cell? ⟨hb, 0, none⟩ = some (.pointer (some ⟨mb, 0, none⟩)) ∧ w'.cell? ⟨w.heap.size, 0, none⟩ = some (.int .i64 p0) ∧ w'.cell? ⟨w.heap.size, 1, none⟩ = some (.int .i64 p1) ∧ w'.cell? ⟨wd.heap.size, 6, none⟩ = some (.bool false)) (by kernel_rfl) (K8.out _ (Below.refl _ _).drew') (fun hHeld => ?_)
         refine rU 0 _ _ ?_
         (try simp only [Act.put]);try simp only [sA,sZ,sS]
         refine rU 1 _ _ ?_
         (try simp only [Act.put]);try simp only [sA,sZ,sS]
         refine rU 2 _ _ ?_
         (try simp only [Act.put]);try simp only [sA,sZ,sS]
         refine rU 3 _ _ ?_
         (try simp only [Act.put]);try simp only [sA,sZ,sS]
         refine rU 4 _ _ ?_
         (try simp only [Act.put]);try simp only [sA,sZ,sS]
         refine rU 5 _ _ ?_
         (try simp only [Act.put]);try simp only [sA,sZ,sS]
         refine rU 6 _ _ ?_
         (try simp only [Act.put]);try simp only [sA,sZ,sS]
         refine rU 7 _ _ ?_
         (try simp only [Act.put]);try simp only [sA,sZ,sS]
         refine reg_call 8 ?_ (by kernel_rfl) ?_ (fun K hK => ?_);rotate_left 1
         ·simp only [gA,gS,gZ]; exact rfl
         go_simp
         refine (HHO.out _ (Below.refl _ _).drew').mono ?_
         rintro e w7 ⟨rfl, hb7⟩
         have HB7 := Lib.hid ((Below.refl wr.heap.size wr).drew'.trans hb7); clear hb7
         refine hK.out _ _ (K8.out _ HB7.out) (fun hHeld => ?_)
         clear hK K
         (try simp only [Act.put]);try simp only [sA,sZ,sS]
         refine rU 9 _ _ ?_
         (try simp only [Act.put]);try simp only [sA,sZ,sS]
         refine rU 10 _ _ ?_
         (try simp only [Act.put]);try simp only [sA,sZ,sS]
         refine rU 11 _ _ ?_
         (try simp only [Act.put]);try simp only [sA,sZ,sS]
         refine rU 12 _ _ ?_
         (try simp only [Act.put]);try simp only [sA,sZ,sS]
         refine rU 13 _ _ ?_
         (try simp only [Act.put]);try simp only [sA,sZ,sS]
         refine rU 14 _ _ ?_
         (try simp only [Act.put]);try simp only [sA,sZ,sS]
         refine rU 15 _ _ ?_
         (try simp only [Act.put]);try simp only [sA,sZ,sS]
         refine rU 16 _ _ ?_
         (try simp only [Act.put]);try simp only [sA,sZ,sS]
         refine rU 17 _ _ ?_
         (try simp only [Act.put]);try simp only [sA,sZ,sS]
         refine reg_call 18 ?_ (by kernel_rfl) ?_ (fun K hK => ?_);rotate_left 1
         ·simp only [gA,gS,gZ]; exact rfl
         go_simp
         refine (HCO.out _ HB7.out).mono ?_
         rintro e w8 ⟨rfl, hb8⟩
         have HB8 := Lib.hid (HB7.out.trans (hb8.mono HB7.out.size)); clear hb8
         refine hK.out _ _ (K8.out _ HB8.out) (fun hHeld => ?_)
         clear hK K
         (try simp only [Act.put]);try simp only [sA,sZ,sS]
         refine rU 19 _ _ ?_
         (try simp only [Act.put]);try simp only [sA,sZ,sS]
         refine wpAnyH_done (by kernel_rfl) ?_ _
         refine NoPanic.normal ?_
         go_wp2
         go_roundw
         case rel => exact ⟨0 + 1, vi, by omega, by go_num, by rw [show innerM P S (p0, p1) T (0 + 1) us = innerM P S (p0, p1) T 0 us from by rw [HSTEP.out, HQ2.out]; simp]; exact HHI.out.below HB8.out, HKI.out.trans (KeepH.of_below HB8.out), HBI.out.trans ((HB8.out).mono HBI.out.size)⟩
         case measure => simp [intOf]
        ·go_wp2
         refine wp_region_noPanic ?_
         refine wp_region_held_drew (S := fun w' => w'.cell? ⟨hb, 0, none⟩ = some (.pointer (some ⟨mb, 0, none⟩)) ∧ w'.cell? ⟨w.heap.size, 0, none⟩ = some (.int .i64 p0) ∧ w'.cell? ⟨w.heap.size, 1, none⟩ = some (.int .i64 p1) ∧ w'.cell? ⟨wd.heap.size, 6, none⟩ = some (.bool false)) (by kernel_rfl) (K8.out _ (Below.refl _ _).drew') (fun hHeld => ?_)
         refine rU 0 _ _ ?_
         (try simp only [Act.put]);try simp only [sA,sZ,sS]
         refine rU 1 _ _ ?_
         (try simp only [Act.put]);try simp only [sA,sZ,sS]
         refine rU 2 _ _ ?_
         (try simp only [Act.put]);try simp only [sA,sZ,sS]
         refine rU 3 _ _ ?_
         (try simp only [Act.put]);try simp only [sA,sZ,sS]
         refine rU 4 _ _ ?_
         (try simp only [Act.put]);try simp only [sA,sZ,sS]
         refine rU 5 _ _ ?_
         (try simp only [Act.put]);try simp only [sA,sZ,sS]
         refine rU 6 _ _ ?_
         (try simp only [Act.put]);try simp only [sA,sZ,sS]
         refine rU 7 _ _ ?_
         (try simp only [Act.put]);try simp only [sA,sZ,sS]
         refine reg_call 8 ?_ (by kernel_rfl) ?_ (fun K hK => ?_);rotate_left 1
         ·simp only [gA,gS,gZ]; exact rfl
         go_simp
         refine (HHO.out _ (Below.refl _ _).drew').mono ?_
         rintro e w7 ⟨rfl, hb7⟩
         have HB7 := Lib.hid ((Below.refl wr.heap.size wr).drew'.trans hb7); clear hb7
         refine hK.out _ _ (K8.out _ HB7.out) (fun hHeld => ?_)
         clear hK K
         (try simp only [Act.put]);try simp only [sA,sZ,sS]
         refine rU 9 _ _ ?_
         (try simp only [Act.put]);try simp only [sA,sZ,sS]
         refine rU 10 _ _ ?_
         (try simp only [Act.put]);try simp only [sA,sZ,sS]
         refine rU 11 _ _ ?_
         (try simp only [Act.put]);try simp only [sA,sZ,sS]
         refine rU 12 _ _ ?_
         (try simp only [Act.put]);try simp only [sA,sZ,sS]
         refine rU 13 _ _ ?_
         (try simp only [Act.put]);try simp only [sA,sZ,sS]
         refine rU 14 _ _ ?_
         (try simp only [Act.put]);try simp only [sA,sZ,sS]
         refine rU 15 _ _ ?_
         (try simp only [Act.put]);try simp only [sA,sZ,sS]
         refine rU 16 _ _ ?_
         (try simp only [Act.put]);try simp only [sA,sZ,sS]
         refine rU 17 _ _ ?_
         (try simp only [Act.put]);try simp only [sA,sZ,sS]
         refine reg_call 18 ?_ (by kernel_rfl) ?_ (fun K hK => ?_);rotate_left 1
         ·simp only [gA,gS,gZ]; exact rfl
         go_simp
         refine (HCO.out _ HB7.out).mono ?_
         rintro e w8 ⟨rfl, hb8⟩
         have HB8 := Lib.hid (HB7.out.trans (hb8.mono HB7.out.size)); clear hb8
         refine hK.out _ _ (K8.out _ HB8.out) (fun hHeld => ?_)
         clear hK K
         (try simp only [Act.put]);try simp only [sA,sZ,sS]
         refine rU 19 _ _ ?_
         (try simp only [Act.put]);try simp only [sA,sZ,sS]
         refine wpAnyH_done (by kernel_rfl) ?_ _
         refine NoPanic.normal ?_
         go_wp2_with fail
         refine (cvTake_any u U w8 H.out (HBI.out.trans (HB8.out.mono HBI.out.size)) (HHI.out.below HB8.out) HU.out (by have := (HI.out.inner P (p0, p1) (HN.out t T HT.out) 0 (by omega)).le; have := HMX.out; omega)).mono ?_
         rintro e w9 ⟨rfl, ⟨v9, hh9, hk9⟩, hb9⟩
         have HH9 := Lib.hid hh9; have HK9 := Lib.hid (HKI.out.trans ((KeepH.of_below HB8.out).trans hk9)); have HB9 := Lib.hid hb9
         clear hh9 hk9 hb9
         go_wp2
         go_roundw
         case rel => exact ⟨0 + 1, v9, by omega, by go_num, by rw [show innerM P S (p0, p1) T (0 + 1) us = takeM P U (u : Int) (innerM P S (p0, p1) T 0 us) from by rw [HSTEP.out, HQ2.out, if_pos (by refine ⟨?_, HNI.out, ?_⟩ <;> trivial)]]; exact HH9.out, HK9.out, HB9.out⟩
         case measure => simp [intOf]
       ·have HYI := Lib.hid (of_decide_eq_true HQ1.out)
        go_wp2
        refine wp_region_noPanic ?_
        refine wp_region_held_drew (S := fun w' => w'.cell? ⟨hb, 0, none⟩ = some (.pointer (some ⟨mb, 0, none⟩)) ∧ w'.cell? ⟨w.heap.size, 0, none⟩ = some (.int .i64 p0) ∧ w'.cell? ⟨w.heap.size, 1, none⟩ = some (.int .i64 p1) ∧ w'.cell? ⟨wd.heap.size, 6, none⟩ = some (.bool false)) (by kernel_rfl) (K8.out _ (Below.refl _ _).drew') (fun hHeld => ?_)
        refine rU 0 _ _ ?_
        (try simp only [Act.put]);try simp only [sA,sZ,sS]
        refine rU 1 _ _ ?_
        (try simp only [Act.put]);try simp only [sA,sZ,sS]
        refine rU 2 _ _ ?_
        (try simp only [Act.put]);try simp only [sA,sZ,sS]
        refine rU 3 _ _ ?_
        (try simp only [Act.put]);try simp only [sA,sZ,sS]
        refine rU 4 _ _ ?_
        (try simp only [Act.put]);try simp only [sA,sZ,sS]
        refine rU 5 _ _ ?_
        (try simp only [Act.put]);try simp only [sA,sZ,sS]
        refine rU 6 _ _ ?_
        (try simp only [Act.put]);try simp only [sA,sZ,sS]
        refine rU 7 _ _ ?_
        (try simp only [Act.put]);try simp only [sA,sZ,sS]
        refine reg_call 8 ?_ (by kernel_rfl) ?_ (fun K hK => ?_);rotate_left 1
        ·simp only [gA,gS,gZ]; exact rfl
        go_simp
        refine (HHO.out _ (Below.refl _ _).drew').mono ?_
        rintro e w7 ⟨rfl, hb7⟩
        have HB7 := Lib.hid ((Below.refl wr.heap.size wr).drew'.trans hb7); clear hb7
        refine hK.out _ _ (K8.out _ HB7.out) (fun hHeld => ?_)
        clear hK K
        (try simp only [Act.put]);try simp only [sA,sZ,sS]
        refine rU 9 _ _ ?_
        (try simp only [Act.put]);try simp only [sA,sZ,sS]
        refine rU 10 _ _ ?_
        (try simp only [Act.put]);try simp only [sA,sZ,sS]
        refine rU 11 _ _ ?_
        (try simp only [Act.put]);try simp only [sA,sZ,sS]
        refine rS 12 ?_ ?_ ?_ ?_;rotate_left 1
        ·simp only [gA,gS,gZ]; exact rfl
        ·rfl
        (try simp only [Act.put]);try simp only [sA,sZ,sS]
        refine rS 13 ?_ ?_ ?_ ?_;rotate_left 1
        ·simp only [gA,gS,gZ]; exact rfl
        ·rfl
        (try simp only [Act.put]);try simp only [sA,sZ,sS]
        refine rS 14 ?_ ?_ ?_ ?_;rotate_left 1
        ·simp only [gA,gS,gZ]; exact rfl
        ·rfl
        (try simp only [Act.put]);try simp only [sA,sZ,sS]
        refine rS 15 ?_ ?_ ?_ ?_;rotate_left 1
        ·simp only [gA,gS,gZ]; exact rfl
        ·rfl
        (try simp only [Act.put]);try simp only [sA,sZ,sS]
        refine rS 16 ?_ ?_ ?_ ?_;rotate_left 1
        ·simp only [gA,gS,gZ]; exact rfl
        ·rfl
        (try simp only [Act.put]);try simp only [sA,sZ,sS]
        refine rS 17 ?_ ?_ ?_ ?_;rotate_left 1
        ·simp only [gA,gS,gZ]; exact rfl
        ·rfl
        (try simp only [Act.put]);try simp only [sA,sZ,sS]
        refine rS 18 ?_ ?_ ?_ ?_;rotate_left 1
        ·simp only [gA,gS,gZ]; exact rfl
        ·rfl
        (try simp only [Act.put]);try simp only [sA,sZ,sS]
        refine rU 19 _ _ ?_
        (try simp only [Act.put]);try simp only [sA,sZ,sS]
        refine wpAnyH_done (by kernel_rfl) ?_ _
        refine NoPanic.normal ?_
        go_wp2
        go_roundw
        case rel => exact ⟨0 + 1, vi, by omega, by go_num, by rw [show innerM P S (p0, p1) T (0 + 1) us = innerM P S (p0, p1) T 0 us from by rw [HSTEP.out, if_neg (fun h => h.2.1 HYI.out)]]; exact HHI.out.below HB7.out, HKI.out.trans (KeepH.of_below HB7.out), HBI.out.trans ((HB7.out).mono HBI.out.size)⟩
        case measure => simp [intOf]
      ·go_wp2
       refine wp_region_noPanic ?_
       refine wp_region_held_drew (S := fun w' => w'.cell? ⟨hb, 0, none⟩ = some (.pointer (some ⟨mb, 0, none⟩)) ∧ w'.cell? ⟨w.heap.size, 0, none⟩ = some (.int .i64 p0) ∧ w'.cell? ⟨w.heap.size, 1, none⟩ = some (.int .i64 p1) ∧ w'.cell? ⟨wd.heap.size, 6, none⟩ = some (.bool true)) (by kernel_rfl) (K8.out _ (Below.refl _ _).drew') (fun hHeld => ?_)
       refine rU 0 _ _ ?_
       (try simp only [Act.put]);try simp only [sA,sZ,sS]
       refine rU 1 _ _ ?_
       (try simp only [Act.put]);try simp only [sA,sZ,sS]
       refine rU 2 _ _ ?_
       (try simp only [Act.put]);try simp only [sA,sZ,sS]
       refine rU 3 _ _ ?_
       (try simp only [Act.put]);try simp only [sA,sZ,sS]
       refine rU 4 _ _ ?_
       (try simp only [Act.put]);try simp only [sA,sZ,sS]
       refine rU 5 _ _ ?_
       (try simp only [Act.put]);try simp only [sA,sZ,sS]
       refine rS 6 ?_ ?_ ?_ ?_;rotate_left 1
       ·simp only [gA,gS,gZ]; exact rfl
       ·rfl
       (try simp only [Act.put]);try simp only [sA,sZ,sS]
       refine rS 7 ?_ ?_ ?_ ?_;rotate_left 1
       ·simp only [gA,gS,gZ]; exact rfl
       ·rfl
       (try simp only [Act.put]);try simp only [sA,sZ,sS]
       refine rS 8 ?_ ?_ ?_ ?_;rotate_left 1
       ·simp only [gA,gS,gZ]; exact rfl
       ·rfl
       (try simp only [Act.put]);try simp only [sA,sZ,sS]
       refine rS 9 ?_ ?_ ?_ ?_;rotate_left 1
       ·simp only [gA,gS,gZ]; exact rfl
       ·rfl
       (try simp only [Act.put]);try simp only [sA,sZ,sS]
       refine rU 10 _ _ ?_
       (try simp only [Act.put]);try simp only [sA,sZ,sS]
       refine rU 11 _ _ ?_
       (try simp only [Act.put]);try simp only [sA,sZ,sS]
       refine rS 12 ?_ ?_ ?_ ?_;rotate_left 1
       ·simp only [gA,gS,gZ]; exact rfl
       ·rfl
       (try simp only [Act.put]);try simp only [sA,sZ,sS]
       refine rS 13 ?_ ?_ ?_ ?_;rotate_left 1
       ·simp only [gA,gS,gZ]; exact rfl
       ·rfl
       (try simp only [Act.put]);try simp only [sA,sZ,sS]
       refine rS 14 ?_ ?_ ?_ ?_;rotate_left 1
       ·simp only [gA,gS,gZ]; exact rfl
       ·rfl
       (try simp only [Act.put]);try simp only [sA,sZ,sS]
       refine rS 15 ?_ ?_ ?_ ?_;rotate_left 1
       ·simp only [gA,gS,gZ]; exact rfl
       ·rfl
       (try simp only [Act.put]);try simp only [sA,sZ,sS]
       refine rS 16 ?_ ?_ ?_ ?_;rotate_left 1
       ·simp only [gA,gS,gZ]; exact rfl
       ·rfl
       (try simp only [Act.put]);try simp only [sA,sZ,sS]
       refine rS 17 ?_ ?_ ?_ ?_;rotate_left 1
       ·simp only [gA,gS,gZ]; exact rfl
       ·rfl
       (try simp only [Act.put]);try simp only [sA,sZ,sS]
       refine rS 18 ?_ ?_ ?_ ?_;rotate_left 1
       ·simp only [gA,gS,gZ]; exact rfl
       ·rfl
       (try simp only [Act.put]);try simp only [sA,sZ,sS]
       refine rU 19 _ _ ?_
       (try simp only [Act.put]);try simp only [sA,sZ,sS]
       refine wpAnyH_done (by kernel_rfl) ?_ _
       refine NoPanic.normal ?_
       go_wp2
       go_roundw
       case rel => exact ⟨0 + 1, vi, by omega, by go_num, by rw [show innerM P S (p0, p1) T (0 + 1) us = innerM P S (p0, p1) T 0 us from by rw [HSTEP.out, if_neg (fun h => by cases h.1)]]; exact HHI.out.below (Below.refl wr.heap.size wr).drew', HKI.out.trans (KeepH.of_below (Below.refl wr.heap.size wr).drew'), HBI.out.trans (((Below.refl wr.heap.size wr).drew').mono HBI.out.size)⟩
       case measure => simp [intOf]
     ·obtain ⟨u, hu, hul⟩ := HN.out t T HT.out 1 (by omega)
      obtain ⟨U, hU⟩ : ∃ U, S[u]? = some U := ⟨_, List.getElem?_eq_getElem hul⟩
      rw [HTT.out] at hu
      obtain rfl : n1 = (u : Int) := hu
      have hnu : T.n 1 = (u : Int) := by rw [HTT.out]; rfl
      have hfi : T.f 1 = f1 := by rw [HTT.out]; rfl
      have hct : confT P S (p0, p1) (u : Int) = conflictM P U (p0, p1) := by unfold confT; rw [Int.toNat_natCast, hU]
      have htk : takeS P S (u : Int) (innerM P S (p0, p1) T 1 us) = takeM P U (u : Int) (innerM P S (p0, p1) T 1 us) := by unfold takeS; rw [Int.toNat_natCast, hU]
      have hur : -1000000 ≤ (u : Int) ∧ (u : Int) ≤ 1000000 := by have := HMX.out; omega
      have HSTEP := Lib.hid (show innerM P S (p0, p1) T (1 + 1) us = if f1 = false ∧ (u : Int) ∉ innerM P S (p0, p1) T 1 us ∧ conflictM P U (p0, p1) = true then takeM P U (u : Int) (innerM P S (p0, p1) T 1 us) else innerM P S (p0, p1) T 1 us by
       show stepM P S (p0, p1) T 1 (innerM P S (p0, p1) T 1 us) = _
       unfold stepM; rw [hnu, hfi, hct, htk])
      have HU := Lib.hid hU
      obtain ⟨q1, hq1⟩ : ∃ q, decide ((u : Int) ∈ innerM P S (p0, p1) T 1 us) = q := ⟨_, rfl⟩
      obtain ⟨q2, hq2⟩ : ∃ q, conflictM P U (p0, p1) = q := ⟨_, rfl⟩
      have HHO := Lib.hid (show ∀ W : World, Below wr.heap.size wr W → Calls Tryz.prog 200 #[.pointer (some ⟨hb, 0, none⟩), .int .i64 (u : Int)] W fun e w' => e = .returned (.bool q1) ∧ Below W.heap.size W w' from fun W hW => by have := cvHolds_any hb b _ (u : Int) W (HHI.out.below hW).box.c2 (HHI.out.below hW).map hur; rw [hq1] at this; exact this)
      have HCO := Lib.hid (show ∀ W : World, Below wr.heap.size wr W → Calls Tryz.prog 32 #[.pointer (some ⟨mb, 0, none⟩), .int .i64 (u : Int), .agg #[.int .i64 p0, .int .i64 p1]] W fun e w' => e = .returned (.bool q2) ∧ Below W.heap.size W w' from fun W hW => by have := cvConflict_any u U p0 p1 W (H.out.below (HBI.out.trans (hW.mono HBI.out.size))) HP.out HPP.out HU.out; rw [hq2] at this; exact this)
      have HQ1 := Lib.hid hq1; have HQ2 := Lib.hid hq2
      have K8 := Lib.hid (show ∀ w' : World, Below wr.heap.size wr w' → w'.cell? ⟨hb, 0, none⟩ = some (.pointer (some ⟨mb, 0, none⟩)) ∧ w'.cell? ⟨w.heap.size, 0, none⟩ = some (.int .i64 p0) ∧ w'.cell? ⟨w.heap.size, 1, none⟩ = some (.int .i64 p1) ∧ w'.cell? ⟨wd.heap.size, 7, none⟩ = some (.bool f1) from fun w' hw => ⟨(HHI.out.below hw).box.c0, (PPI.out.below hw).c 0 _ rfl, (PPI.out.below hw).c 1 _ rfl, (PTI.out.below hw).c 7 _ rfl⟩)
      have ir : ∀ w : World, (Instr.index 38 (.agg #[.int .i64 n0, .int .i64 (u : Int), .int .i64 n2]) (.int .i64 1)).run Tryz.prog w = .ok (.int .i64 (u : Int)) w := fun w => index3v_run ⟨n0, (u : Int), n2, 0, 0, 0, false, false, false⟩ 1 (by omega) w
      clear hul hU hnu hfi hct htk hur hq1 hq2
      cases f1
      ·cases q1
       ·have HNI := Lib.hid (of_decide_eq_false HQ1.out)
        cases q2
        ·go_wp2
         refine wp_region_noPanic ?_
         refine wp_region_held_drew (S := fun w' => w'.cell? ⟨hb, 0, none⟩ = some (.pointer (some ⟨mb, 0, none⟩)) ∧ w'.cell? ⟨w.heap.size, 0, none⟩ = some (.int .i64 p0) ∧ w'.cell? ⟨w.heap.size, 1, none⟩ = some (.int .i64 p1) ∧ w'.cell? ⟨wd.heap.size, 7, none⟩ = some (.bool false)) (by kernel_rfl) (K8.out _ (Below.refl _ _).drew') (fun hHeld => ?_)
         refine rU 0 _ _ ?_
         (try simp only [Act.put]);try simp only [sA,sZ,sS]
         refine rU 1 _ _ ?_
         (try simp only [Act.put]);try simp only [sA,sZ,sS]
         refine rU 2 _ _ ?_
         (try simp only [Act.put]);try simp only [sA,sZ,sS]
         refine rU 3 _ _ ?_
         (try simp only [Act.put]);try simp only [sA,sZ,sS]
         refine rU 4 _ _ ?_
         (try simp only [Act.put]);try simp only [sA,sZ,sS]
         refine rU 5 _ _ ?_
         (try simp only [Act.put]);try simp only [sA,sZ,sS]
         refine rU 6 _ _ ?_
         (try simp only [Act.put]);try simp only [sA,sZ,sS]
         refine rU 7 _ _ ?_
         (try simp only [Act.put]);try simp only [sA,sZ,sS]
         refine reg_call 8 ?_ (by kernel_rfl) ?_ (fun K hK => ?_);rotate_left 1
         ·simp only [gA,gS,gZ]; exact rfl
         go_simp
         refine (HHO.out _ (Below.refl _ _).drew').mono ?_
         rintro e w7 ⟨rfl, hb7⟩
         have HB7 := Lib.hid ((Below.refl wr.heap.size wr).drew'.trans hb7); clear hb7
         refine hK.out _ _ (K8.out _ HB7.out) (fun hHeld => ?_)
         clear hK K
         (try simp only [Act.put]);try simp only [sA,sZ,sS]
         refine rU 9 _ _ ?_
         (try simp only [Act.put]);try simp only [sA,sZ,sS]
         refine rU 10 _ _ ?_
         (try simp only [Act.put]);try simp only [sA,sZ,sS]
         refine rU 11 _ _ ?_
         (try simp only [Act.put]);try simp only [sA,sZ,sS]
         refine rU 12 _ _ ?_
         (try simp only [Act.put]);try simp only [sA,sZ,sS]
         refine rU 13 _ _ ?_
         (try simp only [Act.put]);try simp only [sA,sZ,sS]
         refine rU 14 _ _ ?_
         (try simp only [Act.put]);try simp only [sA,sZ,sS]
         refine rU 15 _ _ ?_
         (try simp only [Act.put]);try simp only [sA,sZ,sS]
         refine rU 16 _ _ ?_
         (try simp only [Act.put]);try simp only [sA,sZ,sS]
         refine rU 17 _ _ ?_
         (try simp only [Act.put]);try simp only [sA,sZ,sS]
         refine reg_call 18 ?_ (by kernel_rfl) ?_ (fun K hK => ?_);rotate_left 1
         ·simp only [gA,gS,gZ]; exact rfl
         go_simp
         refine (HCO.out _ HB7.out).mono ?_
         rintro e w8 ⟨rfl, hb8⟩
         have HB8 := Lib.hid (HB7.out.trans (hb8.mono HB7.out.size)); clear hb8
         refine hK.out _ _ (K8.out _ HB8.out) (fun hHeld => ?_)
         clear hK K
         (try simp only [Act.put]);try simp only [sA,sZ,sS]
         refine rU 19 _ _ ?_
         (try simp only [Act.put]);try simp only [sA,sZ,sS]
         refine wpAnyH_done (by kernel_rfl) ?_ _
         refine NoPanic.normal ?_
         go_wp2
         go_roundw
         case rel => exact ⟨1 + 1, vi, by omega, by go_num, by rw [show innerM P S (p0, p1) T (1 + 1) us = innerM P S (p0, p1) T 1 us from by rw [HSTEP.out, HQ2.out]; simp]; exact HHI.out.below HB8.out, HKI.out.trans (KeepH.of_below HB8.out), HBI.out.trans ((HB8.out).mono HBI.out.size)⟩
         case measure => simp [intOf]
        ·go_wp2
         refine wp_region_noPanic ?_
         refine wp_region_held_drew (S := fun w' => w'.cell? ⟨hb, 0, none⟩ = some (.pointer (some ⟨mb, 0, none⟩)) ∧ w'.cell? ⟨w.heap.size, 0, none⟩ = some (.int .i64 p0) ∧ w'.cell? ⟨w.heap.size, 1, none⟩ = some (.int .i64 p1) ∧ w'.cell? ⟨wd.heap.size, 7, none⟩ = some (.bool false)) (by kernel_rfl) (K8.out _ (Below.refl _ _).drew') (fun hHeld => ?_)
         refine rU 0 _ _ ?_
         (try simp only [Act.put]);try simp only [sA,sZ,sS]
         refine rU 1 _ _ ?_
         (try simp only [Act.put]);try simp only [sA,sZ,sS]
         refine rU 2 _ _ ?_
         (try simp only [Act.put]);try simp only [sA,sZ,sS]
         refine rU 3 _ _ ?_
         (try simp only [Act.put]);try simp only [sA,sZ,sS]
         refine rU 4 _ _ ?_
         (try simp only [Act.put]);try simp only [sA,sZ,sS]
         refine rU 5 _ _ ?_
         (try simp only [Act.put]);try simp only [sA,sZ,sS]
         refine rU 6 _ _ ?_
         (try simp only [Act.put]);try simp only [sA,sZ,sS]
         refine rU 7 _ _ ?_
         (try simp only [Act.put]);try simp only [sA,sZ,sS]
         refine reg_call 8 ?_ (by kernel_rfl) ?_ (fun K hK => ?_);rotate_left 1
         ·simp only [gA,gS,gZ]; exact rfl
         go_simp
         refine (HHO.out _ (Below.refl _ _).drew').mono ?_
         rintro e w7 ⟨rfl, hb7⟩
         have HB7 := Lib.hid ((Below.refl wr.heap.size wr).drew'.trans hb7); clear hb7
         refine hK.out _ _ (K8.out _ HB7.out) (fun hHeld => ?_)
         clear hK K
         (try simp only [Act.put]);try simp only [sA,sZ,sS]
         refine rU 9 _ _ ?_
         (try simp only [Act.put]);try simp only [sA,sZ,sS]
         refine rU 10 _ _ ?_
         (try simp only [Act.put]);try simp only [sA,sZ,sS]
         refine rU 11 _ _ ?_
         (try simp only [Act.put]);try simp only [sA,sZ,sS]
         refine rU 12 _ _ ?_
         (try simp only [Act.put]);try simp only [sA,sZ,sS]
         refine rU 13 _ _ ?_
         (try simp only [Act.put]);try simp only [sA,sZ,sS]
         refine rU 14 _ _ ?_
         (try simp only [Act.put]);try simp only [sA,sZ,sS]
         refine rU 15 _ _ ?_
         (try simp only [Act.put]);try simp only [sA,sZ,sS]
         refine rU 16 _ _ ?_
         (try simp only [Act.put]);try simp only [sA,sZ,sS]
         refine rU 17 _ _ ?_
         (try simp only [Act.put]);try simp only [sA,sZ,sS]
         refine reg_call 18 ?_ (by kernel_rfl) ?_ (fun K hK => ?_);rotate_left 1
         ·simp only [gA,gS,gZ]; exact rfl
         go_simp
         refine (HCO.out _ HB7.out).mono ?_
         rintro e w8 ⟨rfl, hb8⟩
         have HB8 := Lib.hid (HB7.out.trans (hb8.mono HB7.out.size)); clear hb8
         refine hK.out _ _ (K8.out _ HB8.out) (fun hHeld => ?_)
         clear hK K
         (try simp only [Act.put]);try simp only [sA,sZ,sS]
         refine rU 19 _ _ ?_
         (try simp only [Act.put]);try simp only [sA,sZ,sS]
         refine wpAnyH_done (by kernel_rfl) ?_ _
         refine NoPanic.normal ?_
         go_wp2_with fail
         refine (cvTake_any u U w8 H.out (HBI.out.trans (HB8.out.mono HBI.out.size)) (HHI.out.below HB8.out) HU.out (by have := (HI.out.inner P (p0, p1) (HN.out t T HT.out) 1 (by omega)).le; have := HMX.out; omega)).mono ?_
         rintro e w9 ⟨rfl, ⟨v9, hh9, hk9⟩, hb9⟩
         have HH9 := Lib.hid hh9; have HK9 := Lib.hid (HKI.out.trans ((KeepH.of_below HB8.out).trans hk9)); have HB9 := Lib.hid hb9
         clear hh9 hk9 hb9
         go_wp2
         go_roundw
         case rel => exact ⟨1 + 1, v9, by omega, by go_num, by rw [show innerM P S (p0, p1) T (1 + 1) us = takeM P U (u : Int) (innerM P S (p0, p1) T 1 us) from by rw [HSTEP.out, HQ2.out, if_pos (by refine ⟨?_, HNI.out, ?_⟩ <;> trivial)]]; exact HH9.out, HK9.out, HB9.out⟩
         case measure => simp [intOf]
       ·have HYI := Lib.hid (of_decide_eq_true HQ1.out)
        go_wp2
        refine wp_region_noPanic ?_
        refine wp_region_held_drew (S := fun w' => w'.cell? ⟨hb, 0, none⟩ = some (.pointer (some ⟨mb, 0, none⟩)) ∧ w'.cell? ⟨w.heap.size, 0, none⟩ = some (.int .i64 p0) ∧ w'.cell? ⟨w.heap.size, 1, none⟩ = some (.int .i64 p1) ∧ w'.cell? ⟨wd.heap.size, 7, none⟩ = some (.bool false)) (by kernel_rfl) (K8.out _ (Below.refl _ _).drew') (fun hHeld => ?_)
        refine rU 0 _ _ ?_
        (try simp only [Act.put]);try simp only [sA,sZ,sS]
        refine rU 1 _ _ ?_
        (try simp only [Act.put]);try simp only [sA,sZ,sS]
        refine rU 2 _ _ ?_
        (try simp only [Act.put]);try simp only [sA,sZ,sS]
        refine rU 3 _ _ ?_
        (try simp only [Act.put]);try simp only [sA,sZ,sS]
        refine rU 4 _ _ ?_
        (try simp only [Act.put]);try simp only [sA,sZ,sS]
        refine rU 5 _ _ ?_
        (try simp only [Act.put]);try simp only [sA,sZ,sS]
        refine rU 6 _ _ ?_
        (try simp only [Act.put]);try simp only [sA,sZ,sS]
        refine rU 7 _ _ ?_
        (try simp only [Act.put]);try simp only [sA,sZ,sS]
        refine reg_call 8 ?_ (by kernel_rfl) ?_ (fun K hK => ?_);rotate_left 1
        ·simp only [gA,gS,gZ]; exact rfl
        go_simp
        refine (HHO.out _ (Below.refl _ _).drew').mono ?_
        rintro e w7 ⟨rfl, hb7⟩
        have HB7 := Lib.hid ((Below.refl wr.heap.size wr).drew'.trans hb7); clear hb7
        refine hK.out _ _ (K8.out _ HB7.out) (fun hHeld => ?_)
        clear hK K
        (try simp only [Act.put]);try simp only [sA,sZ,sS]
        refine rU 9 _ _ ?_
        (try simp only [Act.put]);try simp only [sA,sZ,sS]
        refine rU 10 _ _ ?_
        (try simp only [Act.put]);try simp only [sA,sZ,sS]
        refine rU 11 _ _ ?_
        (try simp only [Act.put]);try simp only [sA,sZ,sS]
        refine rS 12 ?_ ?_ ?_ ?_;rotate_left 1
        ·simp only [gA,gS,gZ]; exact rfl
        ·rfl
        (try simp only [Act.put]);try simp only [sA,sZ,sS]
        refine rS 13 ?_ ?_ ?_ ?_;rotate_left 1
        ·simp only [gA,gS,gZ]; exact rfl
        ·rfl
        (try simp only [Act.put]);try simp only [sA,sZ,sS]
        refine rS 14 ?_ ?_ ?_ ?_;rotate_left 1
        ·simp only [gA,gS,gZ]; exact rfl
        ·rfl
        (try simp only [Act.put]);try simp only [sA,sZ,sS]
        refine rS 15 ?_ ?_ ?_ ?_;rotate_left 1
        ·simp only [gA,gS,gZ]; exact rfl
        ·rfl
        (try simp only [Act.put]);try simp only [sA,sZ,sS]
        refine rS 16 ?_ ?_ ?_ ?_;rotate_left 1
        ·simp only [gA,gS,gZ]; exact rfl
        ·rfl
        (try simp only [Act.put]);try simp only [sA,sZ,sS]
        refine rS 17 ?_ ?_ ?_ ?_;rotate_left 1
        ·simp only [gA,gS,gZ]; exact rfl
        ·rfl
        (try simp only [Act.put]);try simp only [sA,sZ,sS]
        refine rS 18 ?_ ?_ ?_ ?_;rotate_left 1
        ·simp only [gA,gS,gZ]; exact rfl
        ·rfl
        (try simp only [Act.put]);try simp only [sA,sZ,sS]
        refine rU 19 _ _ ?_
        (try simp only [Act.put]);try simp only [sA,sZ,sS]
        refine wpAnyH_done (by kernel_rfl) ?_ _
        refine NoPanic.normal ?_
        go_wp2
        go_roundw
        case rel => exact ⟨1 + 1, vi, by omega, by go_num, by rw [show innerM P S (p0, p1) T (1 + 1) us = innerM P S (p0, p1) T 1 us from by rw [HSTEP.out, if_neg (fun h => h.2.1 HYI.out)]]; exact HHI.out.below HB7.out, HKI.out.trans (KeepH.of_below HB7.out), HBI.out.trans ((HB7.out).mono HBI.out.size)⟩
        case measure => simp [intOf]
      ·go_wp2
       refine wp_region_noPanic ?_
       refine wp_region_held_drew (S := fun w' => w'.cell? ⟨hb, 0, none⟩ = some (.pointer (some ⟨mb, 0, none⟩)) ∧ w'.cell? ⟨w.heap.size, 0, none⟩ = some (.int .i64 p0) ∧ w'.cell? ⟨w.heap.size, 1, none⟩ = some (.int .i64 p1) ∧ w'.cell? ⟨wd.heap.size, 7, none⟩ = some (.bool true)) (by kernel_rfl) (K8.out _ (Below.refl _ _).drew') (fun hHeld => ?_)
       refine rU 0 _ _ ?_
       (try simp only [Act.put]);try simp only [sA,sZ,sS]
       refine rU 1 _ _ ?_
       (try simp only [Act.put]);try simp only [sA,sZ,sS]
       refine rU 2 _ _ ?_
       (try simp only [Act.put]);try simp only [sA,sZ,sS]
       refine rU 3 _ _ ?_
       (try simp only [Act.put]);try simp only [sA,sZ,sS]
       refine rU 4 _ _ ?_
       (try simp only [Act.put]);try simp only [sA,sZ,sS]
       refine rU 5 _ _ ?_
       (try simp only [Act.put]);try simp only [sA,sZ,sS]
       refine rS 6 ?_ ?_ ?_ ?_;rotate_left 1
       ·simp only [gA,gS,gZ]; exact rfl
       ·rfl
       (try simp only [Act.put]);try simp only [sA,sZ,sS]
       refine rS 7 ?_ ?_ ?_ ?_;rotate_left 1
       ·simp only [gA,gS,gZ]; exact rfl
       ·rfl
       (try simp only [Act.put]);try simp only [sA,sZ,sS]
       refine rS 8 ?_ ?_ ?_ ?_;rotate_left 1
       ·simp only [gA,gS,gZ]; exact rfl
       ·rfl
       (try simp only [Act.put]);try simp only [sA,sZ,sS]
       refine rS 9 ?_ ?_ ?_ ?_;rotate_left 1
       ·simp only [gA,gS,gZ]; exact rfl
       ·rfl
       (try simp only [Act.put]);try simp only [sA,sZ,sS]
       refine rU 10 _ _ ?_
       (try simp only [Act.put]);try simp only [sA,sZ,sS]
       refine rU 11 _ _ ?_
       (try simp only [Act.put]);try simp only [sA,sZ,sS]
       refine rS 12 ?_ ?_ ?_ ?_;rotate_left 1
       ·simp only [gA,gS,gZ]; exact rfl
       ·rfl
       (try simp only [Act.put]);try simp only [sA,sZ,sS]
       refine rS 13 ?_ ?_ ?_ ?_;rotate_left 1
       ·simp only [gA,gS,gZ]; exact rfl
       ·rfl
       (try simp only [Act.put]);try simp only [sA,sZ,sS]
       refine rS 14 ?_ ?_ ?_ ?_;rotate_left 1
       ·simp only [gA,gS,gZ]; exact rfl
       ·rfl
       (try simp only [Act.put]);try simp only [sA,sZ,sS]
       refine rS 15 ?_ ?_ ?_ ?_;rotate_left 1
       ·simp only [gA,gS,gZ]; exact rfl
       ·rfl
       (try simp only [Act.put]);try simp only [sA,sZ,sS]
       refine rS 16 ?_ ?_ ?_ ?_;rotate_left 1
       ·simp only [gA,gS,gZ]; exact rfl
       ·rfl
       (try simp only [Act.put]);try simp only [sA,sZ,sS]
       refine rS 17 ?_ ?_ ?_ ?_;rotate_left 1
       ·simp only [gA,gS,gZ]; exact rfl
       ·rfl
       (try simp only [Act.put]);try simp only [sA,sZ,sS]
       refine rS 18 ?_ ?_ ?_ ?_;rotate_left 1
       ·simp only [gA,gS,gZ]; exact rfl
       ·rfl
       (try simp only [Act.put]);try simp only [sA,sZ,sS]
       refine rU 19 _ _ ?_
       (try simp only [Act.put]);try simp only [sA,sZ,sS]
       refine wpAnyH_done (by kernel_rfl) ?_ _
       refine NoPanic.normal ?_
       go_wp2
       go_roundw
       case rel => exact ⟨1 + 1, vi, by omega, by go_num, by rw [show innerM P S (p0, p1) T (1 + 1) us = innerM P S (p0, p1) T 1 us from by rw [HSTEP.out, if_neg (fun h => by cases h.1)]]; exact HHI.out.below (Below.refl wr.heap.size wr).drew', HKI.out.trans (KeepH.of_below (Below.refl wr.heap.size wr).drew'), HBI.out.trans (((Below.refl wr.heap.size wr).drew').mono HBI.out.size)⟩
       case measure => simp [intOf]
     ·obtain ⟨u, hu, hul⟩ := HN.out t T HT.out 2 (by omega)
      obtain ⟨U, hU⟩ : ∃ U, S[u]? = some U := ⟨_, List.getElem?_eq_getElem hul⟩
      rw [HTT.out] at hu
      obtain rfl : n2 = (u : Int) := hu
      have hnu : T.n 2 = (u : Int) := by rw [HTT.out]; rfl
      have hfi : T.f 2 = f2 := by rw [HTT.out]; rfl
      have hct : confT P S (p0, p1) (u : Int) = conflictM P U (p0, p1) := by unfold confT; rw [Int.toNat_natCast, hU]
      have htk : takeS P S (u : Int) (innerM P S (p0, p1) T 2 us) = takeM P U (u : Int) (innerM P S (p0, p1) T 2 us) := by unfold takeS; rw [Int.toNat_natCast, hU]
      have hur : -1000000 ≤ (u : Int) ∧ (u : Int) ≤ 1000000 := by have := HMX.out; omega
      have HSTEP := Lib.hid (show innerM P S (p0, p1) T (2 + 1) us = if f2 = false ∧ (u : Int) ∉ innerM P S (p0, p1) T 2 us ∧ conflictM P U (p0, p1) = true then takeM P U (u : Int) (innerM P S (p0, p1) T 2 us) else innerM P S (p0, p1) T 2 us by
       show stepM P S (p0, p1) T 2 (innerM P S (p0, p1) T 2 us) = _
       unfold stepM; rw [hnu, hfi, hct, htk])
      have HU := Lib.hid hU
      obtain ⟨q1, hq1⟩ : ∃ q, decide ((u : Int) ∈ innerM P S (p0, p1) T 2 us) = q := ⟨_, rfl⟩
      obtain ⟨q2, hq2⟩ : ∃ q, conflictM P U (p0, p1) = q := ⟨_, rfl⟩
      have HHO := Lib.hid (show ∀ W : World, Below wr.heap.size wr W → Calls Tryz.prog 200 #[.pointer (some ⟨hb, 0, none⟩), .int .i64 (u : Int)] W fun e w' => e = .returned (.bool q1) ∧ Below W.heap.size W w' from fun W hW => by have := cvHolds_any hb b _ (u : Int) W (HHI.out.below hW).box.c2 (HHI.out.below hW).map hur; rw [hq1] at this; exact this)
      have HCO := Lib.hid (show ∀ W : World, Below wr.heap.size wr W → Calls Tryz.prog 32 #[.pointer (some ⟨mb, 0, none⟩), .int .i64 (u : Int), .agg #[.int .i64 p0, .int .i64 p1]] W fun e w' => e = .returned (.bool q2) ∧ Below W.heap.size W w' from fun W hW => by have := cvConflict_any u U p0 p1 W (H.out.below (HBI.out.trans (hW.mono HBI.out.size))) HP.out HPP.out HU.out; rw [hq2] at this; exact this)
      have HQ1 := Lib.hid hq1; have HQ2 := Lib.hid hq2
      have K8 := Lib.hid (show ∀ w' : World, Below wr.heap.size wr w' → w'.cell? ⟨hb, 0, none⟩ = some (.pointer (some ⟨mb, 0, none⟩)) ∧ w'.cell? ⟨w.heap.size, 0, none⟩ = some (.int .i64 p0) ∧ w'.cell? ⟨w.heap.size, 1, none⟩ = some (.int .i64 p1) ∧ w'.cell? ⟨wd.heap.size, 8, none⟩ = some (.bool f2) from fun w' hw => ⟨(HHI.out.below hw).box.c0, (PPI.out.below hw).c 0 _ rfl, (PPI.out.below hw).c 1 _ rfl, (PTI.out.below hw).c 8 _ rfl⟩)
      have ir : ∀ w : World, (Instr.index 38 (.agg #[.int .i64 n0, .int .i64 n1, .int .i64 (u : Int)]) (.int .i64 2)).run Tryz.prog w = .ok (.int .i64 (u : Int)) w := fun w => index3v_run ⟨n0, n1, (u : Int), 0, 0, 0, false, false, false⟩ 2 (by omega) w
      clear hul hU hnu hfi hct htk hur hq1 hq2
      cases f2
      ·cases q1
       ·have HNI := Lib.hid (of_decide_eq_false HQ1.out)
        cases q2
        ·go_wp2
         refine wp_region_noPanic ?_
         refine wp_region_held_drew (S := fun w' => w'.cell? ⟨hb, 0, none⟩ = some (.pointer (some ⟨mb, 0, none⟩)) ∧ w'.cell? ⟨w.heap.size, 0, none⟩ = some (.int .i64 p0) ∧ w'.cell? ⟨w.heap.size, 1, none⟩ = some (.int .i64 p1) ∧ w'.cell? ⟨wd.heap.size, 8, none⟩ = some (.bool false)) (by kernel_rfl) (K8.out _ (Below.refl _ _).drew') (fun hHeld => ?_)
         refine rU 0 _ _ ?_
         (try simp only [Act.put]);try simp only [sA,sZ,sS]
         refine rU 1 _ _ ?_
         (try simp only [Act.put]);try simp only [sA,sZ,sS]
         refine rU 2 _ _ ?_
         (try simp only [Act.put]);try simp only [sA,sZ,sS]
         refine rU 3 _ _ ?_
         (try simp only [Act.put]);try simp only [sA,sZ,sS]
         refine rU 4 _ _ ?_
         (try simp only [Act.put]);try simp only [sA,sZ,sS]
         refine rU 5 _ _ ?_
         (try simp only [Act.put]);try simp only [sA,sZ,sS]
         refine rU 6 _ _ ?_
         (try simp only [Act.put]);try simp only [sA,sZ,sS]
         refine rU 7 _ _ ?_
         (try simp only [Act.put]);try simp only [sA,sZ,sS]
         refine reg_call 8 ?_ (by kernel_rfl) ?_ (fun K hK => ?_);rotate_left 1
         ·simp only [gA,gS,gZ]; exact rfl
         go_simp
         refine (HHO.out _ (Below.refl _ _).drew').mono ?_
         rintro e w7 ⟨rfl, hb7⟩
         have HB7 := Lib.hid ((Below.refl wr.heap.size wr).drew'.trans hb7); clear hb7
         refine hK.out _ _ (K8.out _ HB7.out) (fun hHeld => ?_)
         clear hK K
         (try simp only [Act.put]);try simp only [sA,sZ,sS]
         refine rU 9 _ _ ?_
         (try simp only [Act.put]);try simp only [sA,sZ,sS]
         refine rU 10 _ _ ?_
         (try simp only [Act.put]);try simp only [sA,sZ,sS]
         refine rU 11 _ _ ?_
         (try simp only [Act.put]);try simp only [sA,sZ,sS]
         refine rU 12 _ _ ?_
         (try simp only [Act.put]);try simp only [sA,sZ,sS]
         refine rU 13 _ _ ?_
         (try simp only [Act.put]);try simp only [sA,sZ,sS]
         refine rU 14 _ _ ?_
         (try simp only [Act.put]);try simp only [sA,sZ,sS]
         refine rU 15 _ _ ?_
         (try simp only [Act.put]);try simp only [sA,sZ,sS]
         refine rU 16 _ _ ?_
         (try simp only [Act.put]);try simp only [sA,sZ,sS]
         refine rU 17 _ _ ?_
         (try simp only [Act.put]);try simp only [sA,sZ,sS]
         refine reg_call 18 ?_ (by kernel_rfl) ?_ (fun K hK => ?_);rotate_left 1
         ·simp only [gA,gS,gZ]; exact rfl
         go_simp
         refine (HCO.out _ HB7.out).mono ?_
         rintro e w8 ⟨rfl, hb8⟩
         have HB8 := Lib.hid (HB7.out.trans (hb8.mono HB7.out.size)); clear hb8
         refine hK.out _ _ (K8.out _ HB8.out) (fun hHeld => ?_)
         clear hK K
         (try simp only [Act.put]);try simp only [sA,sZ,sS]
         refine rU 19 _ _ ?_
         (try simp only [Act.put]);try simp only [sA,sZ,sS]
         refine wpAnyH_done (by kernel_rfl) ?_ _
         refine NoPanic.normal ?_
         go_wp2
         go_roundw
         case rel => exact ⟨2 + 1, vi, by omega, by go_num, by rw [show innerM P S (p0, p1) T (2 + 1) us = innerM P S (p0, p1) T 2 us from by rw [HSTEP.out, HQ2.out]; simp]; exact HHI.out.below HB8.out, HKI.out.trans (KeepH.of_below HB8.out), HBI.out.trans ((HB8.out).mono HBI.out.size)⟩
         case measure => simp [intOf]
        ·go_wp2
         refine wp_region_noPanic ?_
         refine wp_region_held_drew (S := fun w' => w'.cell? ⟨hb, 0, none⟩ = some (.pointer (some ⟨mb, 0, none⟩)) ∧ w'.cell? ⟨w.heap.size, 0, none⟩ = some (.int .i64 p0) ∧ w'.cell? ⟨w.heap.size, 1, none⟩ = some (.int .i64 p1) ∧ w'.cell? ⟨wd.heap.size, 8, none⟩ = some (.bool false)) (by kernel_rfl) (K8.out _ (Below.refl _ _).drew') (fun hHeld => ?_)
         refine rU 0 _ _ ?_
         (try simp only [Act.put]);try simp only [sA,sZ,sS]
         refine rU 1 _ _ ?_
         (try simp only [Act.put]);try simp only [sA,sZ,sS]
         refine rU 2 _ _ ?_
         (try simp only [Act.put]);try simp only [sA,sZ,sS]
         refine rU 3 _ _ ?_
         (try simp only [Act.put]);try simp only [sA,sZ,sS]
         refine rU 4 _ _ ?_
         (try simp only [Act.put]);try simp only [sA,sZ,sS]
         refine rU 5 _ _ ?_
         (try simp only [Act.put]);try simp only [sA,sZ,sS]
         refine rU 6 _ _ ?_
         (try simp only [Act.put]);try simp only [sA,sZ,sS]
         refine rU 7 _ _ ?_
         (try simp only [Act.put]);try simp only [sA,sZ,sS]
         refine reg_call 8 ?_ (by kernel_rfl) ?_ (fun K hK => ?_);rotate_left 1
         ·simp only [gA,gS,gZ]; exact rfl
         go_simp
         refine (HHO.out _ (Below.refl _ _).drew').mono ?_
         rintro e w7 ⟨rfl, hb7⟩
         have HB7 := Lib.hid ((Below.refl wr.heap.size wr).drew'.trans hb7); clear hb7
         refine hK.out _ _ (K8.out _ HB7.out) (fun hHeld => ?_)
         clear hK K
         (try simp only [Act.put]);try simp only [sA,sZ,sS]
         refine rU 9 _ _ ?_
         (try simp only [Act.put]);try simp only [sA,sZ,sS]
         refine rU 10 _ _ ?_
         (try simp only [Act.put]);try simp only [sA,sZ,sS]
         refine rU 11 _ _ ?_
         (try simp only [Act.put]);try simp only [sA,sZ,sS]
         refine rU 12 _ _ ?_
         (try simp only [Act.put]);try simp only [sA,sZ,sS]
         refine rU 13 _ _ ?_
         (try simp only [Act.put]);try simp only [sA,sZ,sS]
         refine rU 14 _ _ ?_
         (try simp only [Act.put]);try simp only [sA,sZ,sS]
         refine rU 15 _ _ ?_
         (try simp only [Act.put]);try simp only [sA,sZ,sS]
         refine rU 16 _ _ ?_
         (try simp only [Act.put]);try simp only [sA,sZ,sS]
         refine rU 17 _ _ ?_
         (try simp only [Act.put]);try simp only [sA,sZ,sS]
         refine reg_call 18 ?_ (by kernel_rfl) ?_ (fun K hK => ?_);rotate_left 1
         ·simp only [gA,gS,gZ]; exact rfl
         go_simp
         refine (HCO.out _ HB7.out).mono ?_
         rintro e w8 ⟨rfl, hb8⟩
         have HB8 := Lib.hid (HB7.out.trans (hb8.mono HB7.out.size)); clear hb8
         refine hK.out _ _ (K8.out _ HB8.out) (fun hHeld => ?_)
         clear hK K
         (try simp only [Act.put]);try simp only [sA,sZ,sS]
         refine rU 19 _ _ ?_
         (try simp only [Act.put]);try simp only [sA,sZ,sS]
         refine wpAnyH_done (by kernel_rfl) ?_ _
         refine NoPanic.normal ?_
         go_wp2_with fail
         refine (cvTake_any u U w8 H.out (HBI.out.trans (HB8.out.mono HBI.out.size)) (HHI.out.below HB8.out) HU.out (by have := (HI.out.inner P (p0, p1) (HN.out t T HT.out) 2 (by omega)).le; have := HMX.out; omega)).mono ?_
         rintro e w9 ⟨rfl, ⟨v9, hh9, hk9⟩, hb9⟩
         have HH9 := Lib.hid hh9; have HK9 := Lib.hid (HKI.out.trans ((KeepH.of_below HB8.out).trans hk9)); have HB9 := Lib.hid hb9
         clear hh9 hk9 hb9
         go_wp2
         go_roundw
         case rel => exact ⟨2 + 1, v9, by omega, by go_num, by rw [show innerM P S (p0, p1) T (2 + 1) us = takeM P U (u : Int) (innerM P S (p0, p1) T 2 us) from by rw [HSTEP.out, HQ2.out, if_pos (by refine ⟨?_, HNI.out, ?_⟩ <;> trivial)]]; exact HH9.out, HK9.out, HB9.out⟩
         case measure => simp [intOf]
       ·have HYI := Lib.hid (of_decide_eq_true HQ1.out)
        go_wp2
        refine wp_region_noPanic ?_
        refine wp_region_held_drew (S := fun w' => w'.cell? ⟨hb, 0, none⟩ = some (.pointer (some ⟨mb, 0, none⟩)) ∧ w'.cell? ⟨w.heap.size, 0, none⟩ = some (.int .i64 p0) ∧ w'.cell? ⟨w.heap.size, 1, none⟩ = some (.int .i64 p1) ∧ w'.cell? ⟨wd.heap.size, 8, none⟩ = some (.bool false)) (by kernel_rfl) (K8.out _ (Below.refl _ _).drew') (fun hHeld => ?_)
        refine rU 0 _ _ ?_
        (try simp only [Act.put]);try simp only [sA,sZ,sS]
        refine rU 1 _ _ ?_
        (try simp only [Act.put]);try simp only [sA,sZ,sS]
        refine rU 2 _ _ ?_
        (try simp only [Act.put]);try simp only [sA,sZ,sS]
        refine rU 3 _ _ ?_
        (try simp only [Act.put]);try simp only [sA,sZ,sS]
        refine rU 4 _ _ ?_
        (try simp only [Act.put]);try simp only [sA,sZ,sS]
        refine rU 5 _ _ ?_
        (try simp only [Act.put]);try simp only [sA,sZ,sS]
        refine rU 6 _ _ ?_
        (try simp only [Act.put]);try simp only [sA,sZ,sS]
        refine rU 7 _ _ ?_
        (try simp only [Act.put]);try simp only [sA,sZ,sS]
        refine reg_call 8 ?_ (by kernel_rfl) ?_ (fun K hK => ?_);rotate_left 1
        ·simp only [gA,gS,gZ]; exact rfl
        go_simp
        refine (HHO.out _ (Below.refl _ _).drew').mono ?_
        rintro e w7 ⟨rfl, hb7⟩
        have HB7 := Lib.hid ((Below.refl wr.heap.size wr).drew'.trans hb7); clear hb7
        refine hK.out _ _ (K8.out _ HB7.out) (fun hHeld => ?_)
        clear hK K
        (try simp only [Act.put]);try simp only [sA,sZ,sS]
        refine rU 9 _ _ ?_
        (try simp only [Act.put]);try simp only [sA,sZ,sS]
        refine rU 10 _ _ ?_
        (try simp only [Act.put]);try simp only [sA,sZ,sS]
        refine rU 11 _ _ ?_
        (try simp only [Act.put]);try simp only [sA,sZ,sS]
        refine rS 12 ?_ ?_ ?_ ?_;rotate_left 1
        ·simp only [gA,gS,gZ]; exact rfl
        ·rfl
        (try simp only [Act.put]);try simp only [sA,sZ,sS]
        refine rS 13 ?_ ?_ ?_ ?_;rotate_left 1
        ·simp only [gA,gS,gZ]; exact rfl
        ·rfl
        (try simp only [Act.put]);try simp only [sA,sZ,sS]
        refine rS 14 ?_ ?_ ?_ ?_;rotate_left 1
        ·simp only [gA,gS,gZ]; exact rfl
        ·rfl
        (try simp only [Act.put]);try simp only [sA,sZ,sS]
        refine rS 15 ?_ ?_ ?_ ?_;rotate_left 1
        ·simp only [gA,gS,gZ]; exact rfl
        ·rfl
        (try simp only [Act.put]);try simp only [sA,sZ,sS]
        refine rS 16 ?_ ?_ ?_ ?_;rotate_left 1
        ·simp only [gA,gS,gZ]; exact rfl
        ·rfl
        (try simp only [Act.put]);try simp only [sA,sZ,sS]
        refine rS 17 ?_ ?_ ?_ ?_;rotate_left 1
        ·simp only [gA,gS,gZ]; exact rfl
        ·rfl
        (try simp only [Act.put]);try simp only [sA,sZ,sS]
        refine rS 18 ?_ ?_ ?_ ?_;rotate_left 1
        ·simp only [gA,gS,gZ]; exact rfl
        ·rfl
        (try simp only [Act.put]);try simp only [sA,sZ,sS]
        refine rU 19 _ _ ?_
        (try simp only [Act.put]);try simp only [sA,sZ,sS]
        refine wpAnyH_done (by kernel_rfl) ?_ _
        refine NoPanic.normal ?_
        go_wp2
        go_roundw
        case rel => exact ⟨2 + 1, vi, by omega, by go_num, by rw [show innerM P S (p0, p1) T (2 + 1) us = innerM P S (p0, p1) T 2 us from by rw [HSTEP.out, if_neg (fun h => h.2.1 HYI.out)]]; exact HHI.out.below HB7.out, HKI.out.trans (KeepH.of_below HB7.out), HBI.out.trans ((HB7.out).mono HBI.out.size)⟩
        case measure => simp [intOf]
      ·go_wp2
       refine wp_region_noPanic ?_
       refine wp_region_held_drew (S := fun w' => w'.cell? ⟨hb, 0, none⟩ = some (.pointer (some ⟨mb, 0, none⟩)) ∧ w'.cell? ⟨w.heap.size, 0, none⟩ = some (.int .i64 p0) ∧ w'.cell? ⟨w.heap.size, 1, none⟩ = some (.int .i64 p1) ∧ w'.cell? ⟨wd.heap.size, 8, none⟩ = some (.bool true)) (by kernel_rfl) (K8.out _ (Below.refl _ _).drew') (fun hHeld => ?_)
       refine rU 0 _ _ ?_
       (try simp only [Act.put]);try simp only [sA,sZ,sS]
       refine rU 1 _ _ ?_
       (try simp only [Act.put]);try simp only [sA,sZ,sS]
       refine rU 2 _ _ ?_
       (try simp only [Act.put]);try simp only [sA,sZ,sS]
       refine rU 3 _ _ ?_
       (try simp only [Act.put]);try simp only [sA,sZ,sS]
       refine rU 4 _ _ ?_
       (try simp only [Act.put]);try simp only [sA,sZ,sS]
       refine rU 5 _ _ ?_
       (try simp only [Act.put]);try simp only [sA,sZ,sS]
       refine rS 6 ?_ ?_ ?_ ?_;rotate_left 1
       ·simp only [gA,gS,gZ]; exact rfl
       ·rfl
       (try simp only [Act.put]);try simp only [sA,sZ,sS]
       refine rS 7 ?_ ?_ ?_ ?_;rotate_left 1
       ·simp only [gA,gS,gZ]; exact rfl
       ·rfl
       (try simp only [Act.put]);try simp only [sA,sZ,sS]
       refine rS 8 ?_ ?_ ?_ ?_;rotate_left 1
       ·simp only [gA,gS,gZ]; exact rfl
       ·rfl
       (try simp only [Act.put]);try simp only [sA,sZ,sS]
       refine rS 9 ?_ ?_ ?_ ?_;rotate_left 1
       ·simp only [gA,gS,gZ]; exact rfl
       ·rfl
       (try simp only [Act.put]);try simp only [sA,sZ,sS]
       refine rU 10 _ _ ?_
       (try simp only [Act.put]);try simp only [sA,sZ,sS]
       refine rU 11 _ _ ?_
       (try simp only [Act.put]);try simp only [sA,sZ,sS]
       refine rS 12 ?_ ?_ ?_ ?_;rotate_left 1
       ·simp only [gA,gS,gZ]; exact rfl
       ·rfl
       (try simp only [Act.put]);try simp only [sA,sZ,sS]
       refine rS 13 ?_ ?_ ?_ ?_;rotate_left 1
       ·simp only [gA,gS,gZ]; exact rfl
       ·rfl
       (try simp only [Act.put]);try simp only [sA,sZ,sS]
       refine rS 14 ?_ ?_ ?_ ?_;rotate_left 1
       ·simp only [gA,gS,gZ]; exact rfl
       ·rfl
       (try simp only [Act.put]);try simp only [sA,sZ,sS]
       refine rS 15 ?_ ?_ ?_ ?_;rotate_left 1
       ·simp only [gA,gS,gZ]; exact rfl
       ·rfl
       (try simp only [Act.put]);try simp only [sA,sZ,sS]
       refine rS 16 ?_ ?_ ?_ ?_;rotate_left 1
       ·simp only [gA,gS,gZ]; exact rfl
       ·rfl
       (try simp only [Act.put]);try simp only [sA,sZ,sS]
       refine rS 17 ?_ ?_ ?_ ?_;rotate_left 1
       ·simp only [gA,gS,gZ]; exact rfl
       ·rfl
       (try simp only [Act.put]);try simp only [sA,sZ,sS]
       refine rS 18 ?_ ?_ ?_ ?_;rotate_left 1
       ·simp only [gA,gS,gZ]; exact rfl
       ·rfl
       (try simp only [Act.put]);try simp only [sA,sZ,sS]
       refine rU 19 _ _ ?_
       (try simp only [Act.put]);try simp only [sA,sZ,sS]
       refine wpAnyH_done (by kernel_rfl) ?_ _
       refine NoPanic.normal ?_
       go_wp2
       go_roundw
       case rel => exact ⟨2 + 1, vi, by omega, by go_num, by rw [show innerM P S (p0, p1) T (2 + 1) us = innerM P S (p0, p1) T 2 us from by rw [HSTEP.out, if_neg (fun h => by cases h.1)]]; exact HHI.out.below (Below.refl wr.heap.size wr).drew', HKI.out.trans (KeepH.of_below (Below.refl wr.heap.size wr).drew'), HBI.out.trans (((Below.refl wr.heap.size wr).drew').mono HBI.out.size)⟩
       case measure => simp [intOf]
    ·obtain rfl : i = 3 := by omega
     have hsp := spreadM_on (fuel := len - (n + 1)) P S (p0, p1) HZ.out HT.out
     have hin3 := HI.out.inner P (p0, p1) (HN.out t T HT.out) 3 (by omega)
     have hgr := inner_grows P S (p0, p1) T us 3
     rw [show len - (n + 1) + 1 = len - n by (have := HUL.out; omega), HRR.out] at hsp
     have FIN := Lib.hid (And.intro hsp.symm (And.intro hin3 (show n + 1 ≤ (innerM P S (p0, p1) T 3 us).length by have := HUL.out; omega)))
     clear hsp hin3 hgr
     go_wp2
     have hul9 := HUL.out
     exact ⟨⟨n + 1, _, vi, by go_num, FIN.out.2.2, HHI.out, FIN.out.2.1, FIN.out.1, (HK.out.trans (KeepH.of_below HB5.out)).trans HKI.out, HBI.out⟩, by simp [intOf]; omega⟩
  ·obtain rfl : n = ul := by omega
   have FIN := Lib.hid (And.intro hh hbw)
   have HRE := Lib.hid (show us = R by rw [← hr, spreadM_end _ _ _ _ (by omega)])
   have e1 : decide ((n : Int) < (n : Int)) = false := decide_eq_false (by omega)
   clear hh hin hr hk hbw hul
   go_wp2
   go_end0
   exact ⟨rfl, ⟨_, by rw [← HRE.out]; exact FIN.out.1⟩, FIN.out.2⟩
end Go.Proofs.YtecnnpkpgbbfkaaGreat
/- What a hole holds behind the spreading: just what can be reached. Pure. -/
namespace Go.Proofs.YtecnnpkpgbbfkaaGreat
open Go.RowKit Go.MagM
/-- What is taken: what is there at the beginning, and what is in conflict across an edge that is no fault. -/
inductive Reach (S : List TriM) (conf : Int → Bool) (st : List Int) : Int → Prop
 | base {t : Int} : t ∈ st → Reach S conf st t
 | step {t i : Nat} {T : TriM} : Reach S conf st (t : Int) → S[t]? = some T → i < 3 → T.f i = false → conf (T.n i) = true → Reach S conf st (T.n i)
/-- A list that has all that lies beside what it has. -/
def Closed (S : List TriM) (conf : Int → Bool) (us : List Int) : Prop := ∀ (t i : Nat) (T : TriM), (t : Int) ∈ us → S[t]? = some T → i < 3 → T.f i = false → conf (T.n i) = true → T.n i ∈ us
theorem Closed.reach {S : List TriM} {conf : Int → Bool} {st us : List Int} (h : Closed S conf us) (hs : ∀ t ∈ st, t ∈ us) : ∀ {x}, Reach S conf st x → x ∈ us := by
 intro x hx
 induction hx with
 | base ht => exact hs _ ht
 | step _ hT hi hf hc ih => exact h _ _ _ ih hT hi hf hc
/-- All triangles have a corner that is a point. -/
def Cornered (P : List (Int × Int)) (S : List TriM) : Prop := ∀ (t : Nat) (T : TriM), S[t]? = some T → 0 < (cors P T).length
section
variable {P : List (Int × Int)} {S : List TriM} {p : Int × Int}
theorem takeM_mem {U : TriM} {u : Int} {ts : List Int} (h : 0 < (cors P U).length) : u ∈ takeM P U u ts := by
 unfold takeM
 by_cases hm : u ∈ ts
 ·rw [if_neg (fun k => k.2 hm)]; exact hm
 ·rw [if_pos ⟨h, hm⟩]; simp
theorem takeM_pre (P : List (Int × Int)) (U : TriM) (u : Int) (ts : List Int) : ∃ k, takeM P U u ts = ts ++ k ∧ ∀ x ∈ k, x = u := by
 unfold takeM; split
 ·exact ⟨[u], rfl, by simp⟩
 ·exact ⟨[], by simp, by simp⟩
theorem stepM_pre (P : List (Int × Int)) (S : List TriM) (p : Int × Int) (T : TriM) (i : Nat) (ts : List Int) : ∃ k, stepM P S p T i ts = ts ++ k ∧ ∀ x ∈ k, x = T.n i ∧ T.f i = false ∧ confT P S p (T.n i) = true := by
 unfold stepM; split
 ·rename_i hc
  unfold takeS; split
  ·obtain ⟨k, h1, h2⟩ := takeM_pre P _ (T.n i) ts
   exact ⟨k, h1, fun x hx => ⟨h2 x hx, hc.1, hc.2.2⟩⟩
  ·exact ⟨[], by simp, by simp⟩
 ·exact ⟨[], by simp, by simp⟩
theorem inner_pre (P : List (Int × Int)) (S : List TriM) (p : Int × Int) (T : TriM) (ts : List Int) : ∀ n, n ≤ 3 → ∃ k, innerM P S p T n ts = ts ++ k ∧ ∀ x ∈ k, ∃ i, i < 3 ∧ x = T.n i ∧ T.f i = false ∧ confT P S p (T.n i) = true
 | 0, _ => ⟨[], by simp [innerM], by simp⟩
 | n + 1, hn => by
  obtain ⟨k, h1, h2⟩ := inner_pre P S p T ts n (by omega)
  obtain ⟨k', h3, h4⟩ := stepM_pre P S p T n (innerM P S p T n ts)
  refine ⟨k ++ k', by rw [innerM, h3, h1, List.append_assoc], fun x hx => ?_⟩
  rcases List.mem_append.1 hx with hx | hx
  ·exact h2 x hx
  ·exact ⟨n, by omega, h4 x hx⟩
theorem step_has (hN : Nexts S) (hC : Cornered P S) {t : Nat} {T : TriM} (hT : S[t]? = some T) {i : Nat} (hi : i < 3) (hf : T.f i = false) (hc : confT P S p (T.n i) = true) (ts : List Int) : T.n i ∈ stepM P S p T i ts := by
 by_cases hm : T.n i ∈ ts
 ·obtain ⟨k, h1, -⟩ := stepM_pre P S p T i ts
  rw [h1]; exact List.mem_append_left _ hm
 ·obtain ⟨u, hu, hul⟩ := hN t T hT i hi
  unfold stepM
  rw [if_pos ⟨hf, hm, hc⟩]
  unfold takeS
  rw [hu, Int.toNat_natCast, List.getElem?_eq_getElem hul]
  exact takeM_mem (hC u _ (List.getElem?_eq_getElem hul))
theorem inner_has (hN : Nexts S) (hC : Cornered P S) {t : Nat} {T : TriM} (hT : S[t]? = some T) (ts : List Int) {i : Nat} (hf : T.f i = false) (hc : confT P S p (T.n i) = true) : ∀ n, n ≤ 3 → i < n → T.n i ∈ innerM P S p T n ts
 | 0, _, h => by omega
 | n + 1, hn, h => by
  rw [innerM]
  rcases Nat.lt_or_ge i n with g | g
  ·obtain ⟨k, h1, -⟩ := stepM_pre P S p T n (innerM P S p T n ts)
   rw [h1]; exact List.mem_append_left _ (inner_has hN hC hT ts hf hc n (by omega) g)
  ·obtain rfl : i = n := by omega
   exact step_has hN hC hT (by omega) hf hc _
/-- The first n of a list have their neighbours in it. -/
def ClosedN (P : List (Int × Int)) (S : List TriM) (p : Int × Int) (us : List Int) (n : Nat) : Prop := ∀ j, j < n → ∀ (t i : Nat) (T : TriM), us[j]? = some (t : Int) → S[t]? = some T → i < 3 → T.f i = false → confT P S p (T.n i) = true → T.n i ∈ us
theorem spread_is (hN : Nexts S) (hC : Cornered P S) {st : List Int} : ∀ (fuel n : Nat) (us : List Int), InS S us → n ≤ us.length → S.length ≤ fuel + n → ClosedN P S p us n → (∀ x ∈ us, Reach S (confT P S p) st x) → (∀ x ∈ st, x ∈ us) →
  InS S (spreadM P S p fuel n us) ∧ Closed S (confT P S p) (spreadM P S p fuel n us) ∧ (∀ x ∈ spreadM P S p fuel n us, Reach S (confT P S p) st x) ∧ (∀ x ∈ st, x ∈ spreadM P S p fuel n us)
 | 0, n, us, hI, hn, hf, hcl, hr, hs => by
  rw [spreadM]
  refine ⟨hI, fun t i T ht hT hi h1 h2 => ?_, hr, hs⟩
  obtain ⟨j, hj⟩ := List.mem_iff_getElem?.1 ht
  have := hI.le
  have := (List.getElem?_eq_some_iff.1 hj).1
  exact hcl j (by omega) t i T hj hT hi h1 h2
 | fuel + 1, n, us, hI, hn, hf, hcl, hr, hs => by
  cases hz : us[n]? with
  | none =>
   have hl : us.length ≤ n := List.getElem?_eq_none_iff.1 hz
   rw [spreadM_end P S p _ hl]
   refine ⟨hI, fun t i T ht hT hi h1 h2 => ?_, hr, hs⟩
   obtain ⟨j, hj⟩ := List.mem_iff_getElem?.1 ht
   have := (List.getElem?_eq_some_iff.1 hj).1
   exact hcl j (by omega) t i T hj hT hi h1 h2
  | some z =>
   obtain ⟨t, rfl, htl⟩ := hI.is z (List.mem_of_getElem? hz)
   obtain ⟨T, hT⟩ : ∃ T, S[t]? = some T := ⟨_, List.getElem?_eq_getElem htl⟩
   rw [spreadM_on P S p hz hT]
   have hI' := hI.inner P p (hN t T hT) 3 (by omega)
   obtain ⟨k, hk, hk2⟩ := inner_pre P S p T us 3 (by omega)
   have hnl := (List.getElem?_eq_some_iff.1 hz).1
   refine spread_is hN hC fuel (n + 1) _ hI' (by rw [hk, List.length_append]; omega) (by omega) ?_ ?_ ?_
   ·intro j hj t' i T' hj' hT' hi h1 h2
    rcases Nat.lt_or_ge j n with g | g
    ·rw [hk, List.getElem?_append_left (by omega)] at hj'
     rw [hk]; exact List.mem_append_left _ (hcl j g t' i T' hj' hT' hi h1 h2)
    ·obtain rfl : j = n := by omega
     rw [hk, List.getElem?_append_left hnl, hz] at hj'
     have e0 : (t : Int) = (t' : Int) := by simpa using hj'
     have e : t = t' := by omega
     subst e
     rw [hT] at hT'; cases hT'
     exact inner_has hN hC hT us h1 h2 3 (by omega) hi
   ·intro x hx
    rw [hk] at hx
    rcases List.mem_append.1 hx with hx | hx
    ·exact hr x hx
    ·obtain ⟨i, hi, rfl, h1, h2⟩ := hk2 x hx
     exact .step (hr _ (List.mem_of_getElem? hz)) hT hi h1 h2
   ·intro x hx
    rw [hk]; exact List.mem_append_left _ (hs x hx)
/-- What a hole holds. -/
theorem spread_reach (hN : Nexts S) (hC : Cornered P S) {st : List Int} (hI : InS S st) : InS S (spreadM P S p S.length 0 st) ∧ ∀ x, x ∈ spreadM P S p S.length 0 st ↔ Reach S (confT P S p) st x := by
 obtain ⟨h1, h2, h3, h4⟩ := spread_is (p := p) (st := st) hN hC S.length 0 st hI (Nat.zero_le _) (by omega) (fun j hj => by omega) (fun x hx => .base hx) (fun x hx => hx)
 exact ⟨h1, fun x => ⟨h3 x, fun hx => h2.reach h4 hx⟩⟩
end
end Go.Proofs.YtecnnpkpgbbfkaaGreat
/- The statements' Grid, whatever it is asked: what comes. -/
namespace Go.Proofs.YtecnnpkpgbbfkaaGreat
open Go.RowKit Go.MagM
/-- What Grid leaves. -/
structure GridIs (w : World) (B mb pb pc tb tc g W H bn : Nat) (F : Int → Int → Bool) (Bd : List (Nat × Nat)) (S : List TriM) : Prop where
 mesh : MeshO 33 41 w B mb pb pc (.slice (some ⟨tb, 0, none⟩) S.length tc) (gridP W H) S
 pts : B ≤ pb
 built : Built (faF F) (gridT W H bn) Bd S
 tr : TrIn w g ((gridT W H bn).map realV)
 row : B ≤ g
 hW : W = 1 ∨ W = 2
 hH : H = 1 ∨ H = 2
 hb : bn < 16
theorem GridIs.below {w w' : World} {B mb pb pc tb tc g W H bn : Nat} {F : Int → Int → Bool} {Bd : List (Nat × Nat)} {S : List TriM} (h : GridIs w B mb pb pc tb tc g W H bn F Bd S) (hb : Below w.heap.size w w') : GridIs w' B mb pb pc tb tc g W H bn F Bd S :=
 ⟨h.mesh.below hb, h.pts, h.built, h.tr.below hb, h.row, h.hW, h.hH, h.hb⟩
theorem GridIs.drew {w : World} {B mb pb pc tb tc g W H bn : Nat} {F : Int → Int → Bool} {Bd : List (Nat × Nat)} {S : List TriM} (h : GridIs w B mb pb pc tb tc g W H bn F Bd S) : GridIs w.drew B mb pb pc tb tc g W H bn F Bd S := h.below (Below.refl _ _).drew'
theorem GridIs.read {w : World} {B mb pb pc tb tc g W H bn : Nat} {F : Int → Int → Bool} {Bd : List (Nat × Nat)} {S : List TriM} (h : GridIs w B mb pb pc tb tc g W H bn F Bd S) : MeshR w mb pb pc (some ⟨tb, 0, none⟩) tc (gridP W H) S := by
 obtain ⟨ta, tc', e, hr⟩ := h.mesh.read
 simp only [Value.slice.injEq] at e
 obtain ⟨rfl, -, rfl⟩ := e
 exact hr
theorem GridIs.sound {w : World} {B mb pb pc tb tc g W H bn : Nat} {F : Int → Int → Bool} {Bd : List (Nat × Nat)} {S : List TriM} (h : GridIs w B mb pb pc tb tc g W H bn F Bd S) : SoundIs (gridP W H) S true := by
 have ok := grid_ok h.hW h.hH h.hb
 exact built_sound h.built ok.turn ok.some_ ok.rim
end Go.Proofs.YtecnnpkpgbbfkaaGreat
/- Going round a point of a grid: each triangle that has it comes once. Over no program; written ahead of layer 9's code. -/
namespace Go.MagM
/-- The next one, to the left: it begins where this one ends. -/
def nextS (R : List (Nat × Nat)) (s : Nat × Nat) : Nat × Nat := (R.find? fun p => p.1 == s.2).getD (0, 0)
def walkS (R : List (Nat × Nat)) : Nat → Nat × Nat → List (Nat × Nat)
 | 0, _ => []
 | n + 1, s => s :: walkS R n (nextS R s)
def iterS (R : List (Nat × Nat)) : Nat → Nat × Nat → Nat × Nat
 | 0, s => s
 | n + 1, s => iterS R n (nextS R s)
/-- From each of them on all come, each once, and then the first one again. -/
def roundS (R : List (Nat × Nat)) : Bool := (R.map (·.1)).Nodup && (R.map (·.2)).Nodup && R.all fun s => (walkS R R.length s).Nodup && (walkS R R.length s).all (fun p => R.contains p) && iterS R R.length s == s && R.any (fun p => p.1 == s.2)
/-- As a proposition: what follows what hangs on the set of them alone. -/
structure Round (R : List (Nat × Nat)) : Prop where
 firsts : (R.map (·.1)).Nodup
 seconds : (R.map (·.2)).Nodup
 next : ∀ s, s ∈ R → ∃ p, p ∈ R ∧ p.1 = s.2
 walk : ∀ s, s ∈ R → (walkS R R.length s).Nodup ∧ (∀ p, p ∈ walkS R R.length s → p ∈ R) ∧ iterS R R.length s = s
theorem Round.of {R : List (Nat × Nat)} (h : roundS R = true) : Round R := by
 unfold roundS at h
 simp only [Bool.and_eq_true, decide_eq_true_eq, List.all_eq_true, List.contains_iff_mem, beq_iff_eq, List.any_eq_true] at h
 obtain ⟨⟨h1, h2⟩, h3⟩ := h
 exact ⟨h1, h2, fun s hs => by obtain ⟨p, hp, e⟩ := (h3 s hs).2; exact ⟨p, hp, e⟩, fun s hs => ⟨(h3 s hs).1.1.1, (h3 s hs).1.1.2, (h3 s hs).1.2⟩⟩
theorem walkS_len (R : List (Nat × Nat)) : ∀ n s, (walkS R n s).length = n
 | 0, _ => rfl
 | n + 1, s => by rw [walkS, List.length_cons, walkS_len R n]
/-- All come. -/
theorem subset_of_len {α : Type} [DecidableEq α] : ∀ {l R : List α}, l.Nodup → (∀ x, x ∈ l → x ∈ R) → R.length ≤ l.length → ∀ x, x ∈ R → x ∈ l
 | [], R, _, _, hl, x, hx => by
  have : R = [] := List.eq_nil_of_length_eq_zero (by simpa using hl)
  rw [this] at hx; cases hx
 | a :: t, R, hn, hs, hl, x, hx => by
  have hn' := List.nodup_cons.1 hn
  by_cases e : x = a
  ·rw [e]; simp
  ·refine List.mem_cons_of_mem _ (subset_of_len (R := R.erase a) hn'.2 (fun y hy => ?_) ?_ x ?_)
   ·have hya : y ≠ a := fun e => hn'.1 (e ▸ hy)
    exact (List.mem_erase_of_ne hya).2 (hs y (List.mem_cons_of_mem _ hy))
   ·rw [List.length_erase_of_mem (hs a (by simp))]
    simp at hl; omega
   ·exact (List.mem_erase_of_ne e).2 hx
theorem Round.all {R : List (Nat × Nat)} (h : Round R) {s : Nat × Nat} (hs : s ∈ R) : ∀ p, p ∈ R → p ∈ walkS R R.length s := by
 obtain ⟨h1, h2, _⟩ := h.walk s hs
 exact subset_of_len h1 h2 (by rw [walkS_len]; exact Nat.le_refl _)
end Go.MagM
/- Going round a point of what the statements' Build has made: all triangles that have it come, each once. Pure. -/
namespace Go.MagM
/-- The points behind the k-th one. -/
def pairX (X : TriM) (k : Nat) : Int × Int := (X.v ((k + 1) % 3), X.v ((k + 2) % 3))
/-- Round, till the first one comes again. -/
def cutS (R : List (Nat × Nat)) (p0 : Nat × Nat) : Nat → Nat × Nat → List (Nat × Nat)
 | 0, _ => []
 | n + 1, p => p :: (if nextS R p = p0 then [] else cutS R p0 n (nextS R p))
theorem cutS_walk (R : List (Nat × Nat)) (p0 : Nat × Nat) : ∀ m n p, 1 ≤ m → m ≤ n → iterS R m p = p0 → (∀ j, 0 < j → j < m → iterS R j p ≠ p0) → cutS R p0 n p = walkS R m p
 | 0, _, _, h, _, _, _ => by omega
 | m + 1, 0, _, _, h, _, _ => by omega
 | m + 1, n + 1, p, _, hn, hi, hj => by
  rw [cutS, walkS]
  by_cases hm : m = 0
  ·subst hm
   have : nextS R p = p0 := hi
   rw [if_pos this]; rfl
  ·have h1 := hj 1 (by omega) (by omega)
   have h1' : nextS R p ≠ p0 := h1
   rw [if_neg h1', cutS_walk R p0 m n (nextS R p) (by omega) (by omega) hi (fun j h0 hlt => hj (j + 1) (by omega) (by omega))]
theorem walkS_get (R : List (Nat × Nat)) : ∀ n p j, j < n → (walkS R n p)[j]? = some (iterS R j p)
 | 0, _, _, h => by omega
 | n + 1, p, 0, _ => rfl
 | n + 1, p, j + 1, h => by
  rw [walkS, List.getElem?_cons_succ]
  exact walkS_get R n (nextS R p) j (by omega)
theorem Round.cut {R : List (Nat × Nat)} (h : Round R) {s : Nat × Nat} (hs : s ∈ R) {n : Nat} (hn : R.length ≤ n) : cutS R s n s = walkS R R.length s := by
 obtain ⟨h1, -, h3⟩ := h.walk s hs
 have hl : 1 ≤ R.length := List.length_pos_iff.2 (List.ne_nil_of_mem hs)
 refine cutS_walk R s R.length n s hl hn h3 fun j h0 hj e => ?_
 have e0 := walkS_get R R.length s 0 (by omega)
 have ej := walkS_get R R.length s j hj
 rw [e] at ej
 have := (List.getElem?_inj (by rw [walkS_len]; omega) h1).1 (e0.trans ej.symm)
 omega
section
variable {fa : Int → Int → Bool} {T : List (Nat × Nat × Nat)} {Bd : List (Nat × Nat)} {S : List TriM}
theorem Surf.points {V : List (Int × Int × Int)} (h : Surf fa V S) {t : Nat} {X : TriM} (hX : S[t]? = some X) : X.v1 ≠ X.v2 ∧ X.v2 ≠ X.v0 ∧ X.v0 ≠ X.v1 :=
 ⟨h.apart hX (i := 0) (by omega), h.apart hX (i := 1) (by omega), h.apart hX (i := 2) (by omega)⟩
theorem Surf.place {V : List (Int × Int × Int)} (h : Surf fa V S) {t k : Nat} {X : TriM} (hX : S[t]? = some X) (hk : k < 3) : placeT X (X.v k) = (k : Int) ∧ placeM S (t : Int) (X.v k) = (k : Int) := by
 obtain ⟨a, b, c⟩ := h.points hX
 have hp : placeT X (X.v k) = (k : Int) := by
  unfold placeT
  obtain rfl | rfl | rfl : k = 0 ∨ k = 1 ∨ k = 2 := by omega
  ·rw [show X.v 0 = X.v0 from rfl, if_pos rfl]; rfl
  ·rw [show X.v 1 = X.v1 from rfl, if_neg (fun e => c e.symm), if_pos rfl]; rfl
  ·rw [show X.v 2 = X.v2 from rfl, if_neg b, if_neg (fun e => a e.symm), if_pos rfl]; rfl
 refine ⟨hp, ?_⟩
 unfold placeM
 rw [getT_nat, hX]
 simp only []
 rw [(h.alive hX).2, hp]; simp
/-- The next one begins where this one ends. -/
theorem Surf.next {V : List (Int × Int × Int)} (h : Surf fa V S) {t k : Nat} {X : TriM} (hX : S[t]? = some X) (hk : k < 3) : ∃ (u l : Nat) (Y : TriM), S[u]? = some Y ∧ l < 3 ∧ Y.v l = X.v k ∧ (pairX Y l).1 = (pairX X k).2 ∧ stepM S (X.v k) (t : Int) = (u : Int) := by
 obtain ⟨u, j, Y, hY, hj, he, hn, -⟩ := h.other hX (i := (k + 1) % 3) (by omega)
 have e1 : edgeV X ((k + 1) % 3) = ((pairX X k).2, X.v k) := by
  obtain rfl | rfl | rfl : k = 0 ∨ k = 1 ∨ k = 2 := by omega
  all_goals rfl
 rw [e1] at he
 simp only [] at he
 refine ⟨u, (j + 1) % 3, Y, hY, by omega, ?_, ?_, ?_⟩
 ·obtain rfl | rfl | rfl : j = 0 ∨ j = 1 ∨ j = 2 := by omega
  all_goals exact congrArg Prod.fst he
 ·obtain rfl | rfl | rfl : j = 0 ∨ j = 1 ∨ j = 2 := by omega
  all_goals exact congrArg Prod.snd he
 ·unfold stepM
  rw [getT_nat, hX]
  simp only []
  rw [(h.place hX hk).1, Int.toNat_natCast, hn]
end
end Go.MagM
namespace Go.Proofs.YtecnnpkpgbbfkaaGreat
open Go.RowKit Go.MagM
end Go.Proofs.YtecnnpkpgbbfkaaGreat
/- Right's has. -/
namespace Go.MagM
open Go.RowKit
def hasT (T : TriM) (v : Int) : Bool := decide (T.v0 = v) || decide (T.v1 = v) || decide (T.v2 = v)
end Go.MagM
namespace Go.Proofs.YtecnnpkpgbbfkaaGreat
open Go.RowKit Go.MagM
end Go.Proofs.YtecnnpkpgbbfkaaGreat
/- Right: what it looks for, and that each walk in the statements' grids ends as it asks. Pure. -/
namespace Go.Proofs.YtecnnpkpgbbfkaaGreat
open Go.RowKit Go.MagM
/-- Triangles of the same corners. -/
def SameV (T U : TriM) : Prop := T.v0 = U.v0 ∧ T.v1 = U.v1 ∧ T.v2 = U.v2
theorem SameV.v {T U : TriM} (h : SameV T U) (k : Nat) : T.v k = U.v k := by
 obtain ⟨h0, h1, h2⟩ := h
 match k with
 | 0 => exact h0
 | 1 => exact h1
 | k + 2 => exact h2
theorem SameV.side {T U : TriM} (h : SameV T U) (P : List (Int × Int)) (i : Nat) (p : Int × Int) : sideT P T i p = sideT P U i p := by unfold sideT; rw [h.v, h.v]
theorem SameV.pt {T U : TriM} (h : SameV T U) (P : List (Int × Int)) (k : Nat) : ptT P T k = ptT P U k := by unfold ptT; rw [h.v]
theorem SameV.holds {T U : TriM} (h : SameV T U) (P : List (Int × Int)) (p : Int × Int) : holdsT P T p = holdsT P U p := by unfold holdsT; rw [h.side, h.side, h.side]
theorem SameV.has {T U : TriM} (h : SameV T U) (v : Int) : hasT T v = hasT U v := by unfold hasT; rw [h.1, h.2.1, h.2.2]
theorem SameV.real {T U : TriM} (h : SameV T U) : realT T = realT U := by unfold realT; rw [h.1, h.2.1, h.2.2]
theorem SameV.within {T U : TriM} (h : SameV T U) (P : List (Int × Int)) (t : Nat) (p : Int × Int) : withinT P T t p = withinT P U t p := by
 have e : T.v = U.v := funext h.v
 have e2 : (fun k => decide (sideT P T k p = 0)) = (fun k => decide (sideT P U k p = 0)) := funext fun k => by rw [h.side]
 unfold withinT
 rw [e, e2]
section
variable {fa : Int → Int → Bool} {W H bn : Nat} {Bd : List (Nat × Nat)} {S : List TriM} (h : Built fa (gridT W H bn) Bd S) (hW : W = 1 ∨ W = 2) (hH : H = 1 ∨ H = 2) (hb : bn < 16)
include h hW hH hb
end
end Go.Proofs.YtecnnpkpgbbfkaaGreat
/- Holes by what their triangles are, whatever their numbers; their rims as pairs of points. Pure. -/
namespace Go.MagM
open Go.RowKit
abbrev Trip := Int × Int × Int
def SideM.ab (s : SideM) : Int × Int := (s.a, s.b)
section
variable {fa : Int → Int → Bool} {V : List Trip} {S : List TriM}
end
end Go.MagM
namespace Go.Proofs.YtecnnpkpgbbfkaaGreat
open Go.RowKit Go.MagM
section
variable {fa : Int → Int → Bool} {V : List Trip} {S : List TriM} {conf : Int → Bool} {cv : Trip → Bool} {st : List Int}
end
section
variable {fa : Int → Int → Bool} {V : List Trip} {S : List TriM}
end
end Go.Proofs.YtecnnpkpgbbfkaaGreat
/- cavity's Dig. -/
namespace Go.MagM
open Go.RowKit
theorem RowN.base {w : World} {lo lo' : Nat} {e : TypeId} {size n : Nat} {v : Value} {xs : List Value} (h : RowN w lo e size v n xs) (hl : lo' ≤ lo) : RowN w lo' e size v n xs := by
 refine ⟨h.1, ?_⟩
 rcases h.2 with h1 | ⟨g1, cap1, cur1, h1, h2, h3⟩
 ·exact .inl h1
 ·exact .inr ⟨g1, cap1, cur1, h1, by omega, h3⟩
theorem RowN.setAllFar {base : Nat} {e : TypeId} {size : Nat} {v : Value} {n : Nat} {xs : List Value} {g' : Nat} (hne : ∀ k, v.ownBlock = some k → k ≠ g') : ∀ (ys : List Value) (i : Nat) {w : World}, RowN w base e size v n xs → RowN (Go.MagM.setAll w g' i ys) base e size v n xs
 | [], _, _, h => h
 | y :: ys, i, w, h => RowN.setAllFar hne ys (i + 1) (h.block fun k hk _ => Below.heap_setCell w ⟨g', i, none⟩ y k (by simpa using hne k hk))
end Go.MagM
namespace Go.Proofs.YtecnnpkpgbbfkaaGreat
open Go.RowKit Go.MagM Go.Maps
/-- The sides of what a hole holds are sides of the mesh. -/
theorem rimP_u {S : List TriM} {ts : List Int} (hI : InS S ts) : ∀ n, ∀ s ∈ rimP S ts n, ∃ (t i : Nat) (T : TriM), (t : Int) ∈ ts ∧ S[t]? = some T ∧ i < 3 ∧ T.n i ∉ ts ∧ s = sideS S T i
 | 0, s, hs => by cases hs
 | n + 1, s, hs => by
  rw [rimP] at hs
  rcases List.mem_append.1 hs with hs | hs
  ·exact rimP_u hI n s hs
  ·cases hz : ts[n]? with
   | none => rw [hz] at hs; cases hs
   | some z =>
    rw [hz] at hs
    simp only [] at hs
    unfold rimT at hs
    split at hs
    ·rename_i T hT
     have hi : ∀ k, k ≤ 3 → ∀ s ∈ rimI S ts T k, ∃ i, i < 3 ∧ T.n i ∉ ts ∧ s = sideS S T i := by
      intro k
      induction k with
      | zero => intro _ s hs; cases hs
      | succ k ih =>
       intro hk s hs
       rw [rimI] at hs
       rcases List.mem_append.1 hs with hs | hs
       ·exact ih (by omega) s hs
       ·split at hs
        ·cases hs
        ·rename_i hno
         simp only [List.mem_singleton] at hs
         exact ⟨k, by omega, hno, hs⟩
     obtain ⟨i, h1, h2, h3⟩ := hi 3 (Nat.le_refl _) s hs
     obtain ⟨u, rfl, -⟩ := hI.is z (List.mem_of_getElem? hz)
     rw [Int.toNat_natCast] at hT
     exact ⟨u, i, T, List.mem_of_getElem? hz, hT, h1, h2, h3⟩
    ·cases hs
theorem inRow_sub {l : List SideM} : ∀ s ∈ inRowM l, s ∈ l := by
 have h : ∀ n a, ∀ s ∈ chainN (fun a => lookN l a l.length) n a, s ∈ l := by
  intro n
  induction n with
  | zero => intro a s hs; cases hs
  | succ n ih =>
   intro a s hs
   rw [chainN] at hs
   cases hL : lookN l a l.length with
   | none => rw [hL] at hs; cases hs
   | some x =>
    rw [hL] at hs
    simp only [] at hs
    rcases List.mem_cons.1 hs with rfl | hs
    ·exact (lookN_mem hL).1
    ·exact ih _ s hs
 exact h _ _
theorem inRow_le (l : List SideM) : (inRowM l).length ≤ l.length := chainN_le _ _ _
set_option maxRecDepth 100000 in
set_option maxHeartbeats 8000000 in
theorem cvDig_any {mb pb pc : Nat} {ta : Option Addr} {tc : Nat} {P : List (Int × Int)} {S : List TriM} (st : List Int) (kd at_ a b p0 p1 : Int) (w : World) (h : MeshR w mb pb pc ta tc P S) (hP : InPs P) (hp : InP p0 ∧ InP p1) (hN : Nexts S) (hC : Cornered P S) (hmx : S.length < 300000) (hsm : SmallV S) (hI : InS S st) (hne : st ≠ [])
  (hbeg : ∀ W : World, Below w.heap.size w W → Calls Tryz.prog 152 #[.pointer (some ⟨mb, 0, none⟩), .agg #[.int .i64 kd, .int .i64 at_, .int .i64 a, .int .i64 b]] W fun e w' => ∃ (hb m : Nat) (v : Value), e = .returned (.pointer (some ⟨hb, 0, none⟩)) ∧ HoleR w' W.heap.size hb mb m v st ∧ Below W.heap.size W w') :
  Calls Tryz.prog 115 #[.pointer (some ⟨mb, 0, none⟩), .agg #[.int .i64 p0, .int .i64 p1], .agg #[.int .i64 kd, .int .i64 at_, .int .i64 a, .int .i64 b]] w fun e w' => ∃ (g c : Nat) (rv : Value) (ts : List Int), e = .returned (.agg #[.slice (some ⟨g, 0, none⟩) ts.length c, rv, .bool ((inRowM (rimP S ts ts.length)).any (cutQ2 P S (p0, p1)))]) ∧ InS S ts ∧ (∀ x, x ∈ ts ↔ Reach S (confT P S (p0, p1)) st x) ∧
   RowN w' w.heap.size 3 1 (.slice (some ⟨g, 0, none⟩) ts.length c) ts.length (intCells (sortL ts)) ∧ RowN w' w.heap.size 211 5 rv (inRowM (rimP S ts ts.length)).length (sideCells (inRowM (rimP S ts ts.length))) ∧ Below w.heap.size w w' := by
 obtain ⟨hIT, hTR⟩ := spread_reach (p := (p0, p1)) hN hC hI
 obtain ⟨ts, hts⟩ : ∃ ts, spreadM P S (p0, p1) S.length 0 st = ts := ⟨_, rfl⟩
 rw [hts] at hIT hTR
 have htne : 0 < ts.length := by
  cases st with
  | nil => exact absurd rfl hne
  | cons x r => exact List.length_pos_of_mem ((hTR x).2 (.base (by simp)))
 have htl := hIT.le
 have hrl : (inRowM (rimP S ts ts.length)).length ≤ 1000000 := by have := inRow_le (rimP S ts ts.length); have := rimP_le S ts ts.length; omega
 have hru : ∀ s ∈ inRowM (rimP S ts ts.length), ∃ u : Nat, s.u = (u : Int) ∧ u < S.length := fun s hs => by
  obtain ⟨t, i, T, -, hT, hi, -, rfl⟩ := rimP_u hIT _ s (inRow_sub s hs)
  exact hN t T hT i hi
 obtain ⟨R, hR⟩ : ∃ R, inRowM (rimP S ts ts.length) = R := ⟨_, rfl⟩
 obtain ⟨w1, hw1, pm, hb1, hs1⟩ := new_box w _ rfl [.pointer (some ⟨mb, 0, none⟩)] 25
 obtain ⟨w2, hw2, pp, hb2, hs2⟩ := new_box w1 _ rfl [.int .i64 p0, .int .i64 p1] 33
 obtain ⟨w3, hw3, pl, hb3, hs3⟩ := new_box w2 _ rfl [.int .i64 kd, .int .i64 at_, .int .i64 a, .int .i64 b] 113
 obtain ⟨w4, hw4, pr, hb4, hs4⟩ := new_box w3 _ rfl [.slice none 0 0, .slice none 0 0, .bool false] 175
 have hb12 : Below w.heap.size w w2 := hb1.trans (hb2.mono (by omega))
 have hb13 : Below w.heap.size w w3 := hb12.trans (hb3.mono (by omega))
 have hb14 : Below w.heap.size w w4 := hb13.trans (hb4.mono (by omega))
 have PM := Lib.hid (((pm.below hb2).below hb3).below hb4)
 have PP := Lib.hid ((pp.below hb3).below hb4)
 have PL := Lib.hid (pl.below hb4)
 have PR := Lib.hid pr
 have HB4 := Lib.hid hb14
 have HW4 := Lib.hid hs4
 have HW3 := Lib.hid hb13.size
 have H4 := Lib.hid (h.below hb14)
 have HP := Lib.hid hP; have HPP := Lib.hid hp; have HN := Lib.hid hN; have HC := Lib.hid hC; have HMX := Lib.hid hmx; have HSM := Lib.hid hsm; have HI := Lib.hid hI
 have HIT := Lib.hid hIT; have HTR := Lib.hid hTR; have HTNE := Lib.hid htne; have HTL := Lib.hid htl; have HRL := Lib.hid hrl; have HRU := Lib.hid hru; have HR := Lib.hid hR; have HTS := Lib.hid hts
 have HBEG := Lib.hid (hbeg w4 hb14)
 have m0 := PM.out.c 0 _ rfl
 have l0 := PL.out.c 0 _ rfl; have l1 := PL.out.c 1 _ rfl; have l2 := PL.out.c 2 _ rfl; have l3 := PL.out.c 3 _ rfl
 clear hb1 hb2 hb3 hb4 hb12 hb13 hb14 pm pp pl pr h hP hp hN hC hmx hsm hI hIT hTR htne htl hrl hru hR hts hne hbeg hs1 hs2 hs3 hs4
 go_enter Tryz.func115, Tryz.ntmps115
 go_wp2_with fail
 refine HBEG.out.mono ?_
 rintro e w5 ⟨hb, m, v, rfl, hh5, hb5⟩
 have HH5 := Lib.hid hh5; have HB5 := Lib.hid hb5
 clear hh5 hb5 m0 l0 l1 l2 l3
 have x0 := (PP.out.below HB5.out).c 0 _ rfl; have x1 := (PP.out.below HB5.out).c 1 _ rfl
 go_wp2_with fail
 refine (cvSpread_any p0 p1 w5 H4.out HP.out HPP.out HN.out HB5.out HH5.out HI.out (by have := HMX.out; omega)).mono ?_
 rintro e w6 ⟨rfl, ⟨v6, hh6⟩, hb6⟩
 rw [HTS.out] at hh6
 have HH6 := Lib.hid hh6; have HB6 := Lib.hid hb6
 clear hh6 hb6 x0 x1
 go_wp2_with fail
 refine (cvRim_any w6 (H4.out.below HB6.out) HH6.out HN.out HIT.out HMX.out HSM.out).mono ?_
 rintro e w7 ⟨rv, rfl, hrow7, hb7⟩
 have hrow7' : RowN w7 w4.heap.size 211 5 rv (inRowM (rimP S ts ts.length)).length (sideCells (inRowM (rimP S ts ts.length))) := by
  refine ⟨hrow7.1, ?_⟩
  rcases hrow7.2 with h1 | ⟨g1, cap1, cur1, h1, h2, h3⟩
  ·exact .inl h1
  ·exact .inr ⟨g1, cap1, cur1, h1, by have := HB6.out.size; omega, h3⟩
 have HROW7 := Lib.hid hrow7'; have HH7 := Lib.hid (HH6.out.below hb7); have HB7 := Lib.hid (HB6.out.trans (hb7.mono HB6.out.size))
 have HRV := Lib.hid (show ∀ k, rv.ownBlock = some k → w6.heap.size ≤ k from fun k hk => (hrow7.lt k hk).1)
 obtain ⟨ro, rn, rc, rfl⟩ : ∃ ro rn rc, rv = .slice ro rn rc := by
  rcases hrow7.2 with ⟨h1, -⟩ | ⟨g1, cap1, cur1, h1, -⟩
  ·exact ⟨_, _, _, h1⟩
  ·exact ⟨_, _, _, h1⟩
 clear hrow7 hrow7' hb7
 go_wp2_with fail
 refine (cvContains_any (inRowM (rimP S ts ts.length)) (.slice ro rn rc) (cutQ2 P S (p0, p1)) w7 HROW7.out HRL.out (fun W hW s hs => cvDig1_any s p0 p1 W (H4.out.below (HB7.out.trans (hW.mono HB7.out.size))) HP.out HPP.out ((PM.out.below (HB7.out.trans (hW.mono HB7.out.size))).c 0 _ rfl) (PP.out.below (HB7.out.trans (hW.mono HB7.out.size))) (HRU.out s hs))).mono ?_
 rintro e w8 ⟨rfl, hb8⟩
 obtain ⟨q, hq⟩ : ∃ q, (inRowM (rimP S ts ts.length)).any (cutQ2 P S (p0, p1)) = q := ⟨_, rfl⟩
 rw [hq]
 have HQ := Lib.hid hq
 have HH8 := Lib.hid (HH7.out.below hb8); have HROW8 := Lib.hid (HROW7.out.below hb8); have HB8 := Lib.hid (HB7.out.trans (hb8.mono HB7.out.size))
 clear hb8 hq
 obtain ⟨n, hn⟩ : ∃ n, ts.length = n := ⟨_, rfl⟩
 obtain ⟨g, c, rfl⟩ : ∃ g c, v6 = .slice (some ⟨g, 0, none⟩) n c := by
  rcases HH8.out.row.2 with ⟨h1, h2⟩ | ⟨g, cap, cur, h1, -⟩
  ·have := HTNE.out; omega
  ·exact ⟨g, cap, by rw [← hn]; exact h1⟩
 have HSO := Lib.hid (show Calls Tryz.prog 157 #[.slice (some ⟨g, 0, none⟩) n c] w8 fun e w' => e = .returned (.tuple #[]) ∧ RowN w' w4.heap.size 3 1 (.slice (some ⟨g, 0, none⟩) n c) (sortL ts).length (intCells (sortL ts)) ∧ (∀ k, k < w8.heap.size → k ≠ g → w'.heap[k]? = w8.heap[k]?) ∧ Below w4.heap.size w8 w' ∧ w8.heap.size ≤ w'.heap.size from by
  have hr := HH8.out.row
  rw [← hn] at hr ⊢
  exact cvSort_any w8 hr (by have := HTL.out; have := HMX.out; omega))
 have d1 := HH8.out.box.c1
 have HNN := Lib.hid hn
 clear hn
 go_wp2_with fail
 refine HSO.out.mono ?_
 rintro e w9 ⟨rfl, hrow9, hk9, hb9, hs9⟩
 clear d1
 have hgl := (HH8.out.row.lt g rfl)
 have hlow := HH8.out.low
 have hbx9 := HH8.out.box.same (hk9 hb HH8.out.box.lt (fun e => hlow.2.2.2.1 (by rw [e]; rfl)))
 have hrv9 := HROW8.out.block (w' := w9) (fun k hk hl => hk9 k hl (fun e => by
  subst e
  have h1 := HRV.out k hk
  have h2 := (HH6.out.row.lt k rfl).2
  omega))
 have hb49 : Below w4.heap.size w4 w9 := HB8.out.trans hb9
 have pr9 := PR.out.below hb49
 have d9 := hbx9.c1
 have HROW9 := Lib.hid hrow9; have HRV9 := Lib.hid hrv9; have HB9 := Lib.hid hb49; have PR9 := Lib.hid pr9
 clear hrow9 hk9 hb9 hs9 hgl hlow hbx9 hrv9 hb49 pr9
 have q0 := PR9.out.c 0 _ rfl; have q1 := PR9.out.c 1 _ rfl; have q2 := PR9.out.c 2 _ rfl
 have f0 := PR9.out.f 0 _ rfl; have f1 := PR9.out.f 1 _ rfl; have f2 := PR9.out.f 2 _ rfl
 obtain ⟨wz, hwz⟩ : ∃ wz, setAll w9 w3.heap.size 0 [.slice (some ⟨g, 0, none⟩) n c, .slice ro rn rc, .bool q] = wz := ⟨_, rfl⟩
 have z := PR9.out.setAll (w := w9) [.slice (some ⟨g, 0, none⟩) n c, .slice ro rn rc, .bool q] rfl
 rw [hwz] at z
 have z0 := z.c 0 _ rfl; have z1 := z.c 1 _ rfl; have z2 := z.c 2 _ rfl
 have hlt4 := HW4.out
 have rz1 := (RowN.setAllFar (g' := w3.heap.size) (fun k hk => by have := (HROW9.out.lt k hk).1; omega) [.slice (some ⟨g, 0, none⟩) n c, .slice ro rn rc, .bool q] 0 HROW9.out).base (lo' := w.heap.size) HB4.out.size
 have rz2 := (RowN.setAllFar (g' := w3.heap.size) (fun k hk => by have := (HRV9.out.lt k hk).1; omega) [.slice (some ⟨g, 0, none⟩) n c, .slice ro rn rc, .bool q] 0 HRV9.out).base (lo' := w.heap.size) HB4.out.size
 have hbz := below_setAll (g := w3.heap.size) (HB4.out.trans (HB9.out.mono HB4.out.size)) HW3.out [.slice (some ⟨g, 0, none⟩) n c, .slice ro rn rc, .bool q]
 rw [hwz] at rz1 rz2 hbz
 have FIN := Lib.hid (And.intro rz1 (And.intro rz2 hbz))
 clear rz1 rz2 hbz hlt4
 go_wp2_with fail
 simp only [setAll] at hwz
 rw [hwz]
 refine bodyPost_ret (v := .agg #[.slice (some ⟨g, 0, none⟩) n c, .slice ro rn rc, .bool q]) ?_ rfl ?_
 ·simp [results, Tryz.results115, go_sem, z0, z1, z2]
 ·refine ⟨g, c, .slice ro rn rc, ts, by rw [HQ.out, HNN.out], HIT.out, HTR.out, ?_, FIN.out.2.1, FIN.out.2.2⟩
  rw [HNN.out]
  have := FIN.out.1
  rw [sortL_len, HNN.out] at this
  exact this
end Go.Proofs.YtecnnpkpgbbfkaaGreat
/- grow's put. Written by tools/grow3.py. -/
namespace Go.MagM
open Go.RowKit
def rimR (S : List TriM) (ts : List Int) : List SideM := inRowM (rimP S ts ts.length)
/-- The first n of some triangles are gone. -/
def dropN (S : List TriM) (l : List Int) : Nat → List TriM
 | 0 => S
 | n + 1 => match l[n]? with
  | none => dropN S l n
  | some t => (dropN S l n).set t.toNat goneTri
theorem dropN_some {S : List TriM} {l : List Int} {n : Nat} {t : Int} (h : l[n]? = some t) : dropN S l (n + 1) = (dropN S l n).set t.toNat goneTri := by rw [dropN, h]
theorem dropN_len (S : List TriM) (l : List Int) : ∀ n, (dropN S l n).length = S.length
 | 0 => rfl
 | n + 1 => by
  have := dropN_len S l n
  rw [dropN]
  split
  ·exact this
  ·rw [List.length_set]; exact this
theorem alive_set {S : List TriM} {u t : Nat} (h : Alive S u) (hne : t ≠ u) : Alive (S.set t goneTri) u := by
 obtain ⟨T, hT, hg⟩ := h
 exact ⟨T, by rw [List.getElem?_set_ne hne]; exact hT, hg⟩
theorem dropN_keep {S : List TriM} {l : List Int} {u : Nat} (h : Alive S u) (h0 : ∀ t, t ∈ l → 0 ≤ t) : ∀ n, (∀ i, i < n → l[i]? ≠ some (u : Int)) → Alive (dropN S l n) u
 | 0, _ => h
 | n + 1, hn => by
  have ih := dropN_keep h h0 n (fun i hi => hn i (by omega))
  rw [dropN]
  cases hl : l[n]? with
  | none => exact ih
  | some t =>
   refine alive_set ih fun e => hn n (by omega) ?_
   have := h0 t (List.mem_of_getElem? hl)
   rw [hl, show t = (u : Int) by omega]
theorem dropN_off {S : List TriM} {l : List Int} {u : Nat} (h : Alive S u) (hu : (u : Int) ∉ l) (h0 : ∀ t, t ∈ l → 0 ≤ t) (n : Nat) : Alive (dropN S l n) u :=
 dropN_keep h h0 n fun _ _ e => hu (List.mem_of_getElem? e)
theorem dropN_alive {S : List TriM} {l : List Int} {n t : Nat} (h : Alive S t) (hl : l.Nodup ∧ ∀ t, t ∈ l → 0 ≤ t) (ht : l[n]? = some (t : Int)) : Alive (dropN S l n) t :=
 dropN_keep h hl.2 n fun i hi e => by
  have hn := (List.getElem?_eq_some_iff.1 ht).1
  have := (List.getElem?_inj (by omega : i < l.length) hl.1).1 (e.trans ht.symm)
  omega
end Go.MagM
namespace Go.Proofs.YtecnnpkpgbbfkaaGreat
open Go.RowKit Go.MagM
theorem ins_sorted {S : List TriM} {ts : List Int} (h : InS S ts) : (sortL ts).Nodup ∧ ∀ t, t ∈ sortL ts → 0 ≤ t :=
 ⟨(sortL_perm ts).nodup_iff.2 h.once, fun t ht => by
  obtain ⟨u, e, -⟩ := h.is t ((sortL_perm ts).mem_iff.1 ht)
  rw [e]; omega⟩
/-- What put leaves. -/
def putM (S : List TriM) (v : Int) (pl : List Int) (ts : List Int) : List TriM := fillM (rimR S ts) v pl (dropN S (sortL ts) ts.length)
set_option maxRecDepth 100000 in
set_option maxHeartbeats 16000000 in
theorem put_any {lo mb pb pc : Nat} {tv : Value} {P : List (Int × Int)} {S : List TriM} (v : Nat) (p0 p1 x0 x1 x2 x3 : Int) (pl : List Int) (Good : List Int → Prop) (w : World) (h : MeshO 33 41 w lo mb pb pc tv P (S)) (hv : P[v]? = some (p0, p1)) (hlive : ∀ t, t < S.length → Alive S t) (hsh : S.length ≤ 200000)
  (hG : ∀ ts, Good ts → InS S ts ∧ rimR S ts ≠ [] ∧ ∀ s, s ∈ rimR S ts → ∃ u i : Nat, s.u = (u : Int) ∧ (u : Int) ∉ ts ∧ u < S.length ∧ s.i = (i : Int) ∧ i < 3)
  (hfa : ∀ W : World, Below w.heap.size w W → Calls Tryz.prog 114 #[.pointer (some ⟨mb, 0, none⟩), .agg #[.int .i64 x0, .int .i64 x1, .int .i64 x2, .int .i64 x3]] W fun e w' => ∃ pv, e = .returned pv ∧ ((pv = .slice none 0 0 ∧ pl = []) ∨ ∃ qb c, pv = .slice (some ⟨qb, 0, none⟩) pl.length c ∧ IntsAt w' qb pl ∧ (W.heap.size ≤ qb ∧ qb < w'.heap.size) ∧ pl.length ≤ 1000) ∧ Below W.heap.size W w')
  (hdg : ∀ W : World, Below w.heap.size w W → Calls Tryz.prog 115 #[.pointer (some ⟨mb, 0, none⟩), .agg #[.int .i64 p0, .int .i64 p1], .agg #[.int .i64 x0, .int .i64 x1, .int .i64 x2, .int .i64 x3]] W fun e w' => ∃ (gd c rb rc : Nat) (ts : List Int) (cb : Bool), e = .returned (.agg #[.slice (some ⟨gd, 0, none⟩) ts.length c, .slice (some ⟨rb, 0, none⟩) (rimR S ts).length rc, .bool cb]) ∧ Good ts ∧ IntsAt w' gd (sortL ts) ∧ SidesAt w' rb (rimR S ts) ∧ (W.heap.size ≤ gd ∧ gd < w'.heap.size ∧ W.heap.size ≤ rb ∧ rb < w'.heap.size) ∧ Below W.heap.size W w') :
  Calls Tryz.prog 68 #[.pointer (some ⟨mb, 0, none⟩), .int .i64 (v : Int), .agg #[.int .i64 x0, .int .i64 x1, .int .i64 x2, .int .i64 x3]] w fun e w' => ∃ (ts : List Int) (tv' : Value), e = .returned (.tuple #[]) ∧ Good ts ∧ MeshO 33 41 w' lo mb pb pc tv' P (putM S (v : Int) pl ts) ∧ Mut w w' mb tv tv' := by
 have hvl := (List.getElem?_eq_some_iff.1 hv).1
 obtain ⟨lb, hlb⟩ : ∃ lb, w.heap.size = lb := ⟨_, rfl⟩
 obtain ⟨w1, hw1, px, hb1, hs1⟩ := new_box w _ rfl [.int .i64 x0, .int .i64 x1, .int .i64 x2, .int .i64 x3] 113
 rw [hlb] at px
 have H := Lib.hid h; have HV := Lib.hid hv; have HLV := Lib.hid hlive; have HSH := Lib.hid hsh; have HG := Lib.hid hG; have HFA := Lib.hid (hfa w1 hb1); have HDG := Lib.hid hdg; have PX := Lib.hid px; have HB1 := Lib.hid hb1
 obtain ⟨N, hN⟩ : ∃ N, P.length = N := ⟨_, rfl⟩
 rw [hN] at hvl
 have HNP := Lib.hid hN
 have i0 := px.c 0 _ rfl; have i1 := px.c 1 _ rfl; have i2 := px.c 2 _ rfl; have i3 := px.c 3 _ rfl
 have j3 : (0 : Int) ≤ (v : Int) := by omega
 have j4 : (v : Int) < (N : Int) := by omega
 clear h hv hlive hsh hG hfa hdg px hb1 hs1 hN hvl
 go_enter Tryz.func68, Tryz.ntmps68
 go_wp2_with fail
 refine HFA.out.mono ?_
 rintro e w2 ⟨pv, rfl, hpv, hb2⟩
 have hB2 : Below w.heap.size w w2 := HB1.out.trans (hb2.mono HB1.out.size)
 obtain ⟨WD, hwd⟩ : ∃ WD, w2.drew = WD := ⟨_, rfl⟩
 have hBD : Below w.heap.size w WD := by rw [← hwd]; exact hB2.drew'
 have HWD := Lib.hid hBD; have HWD2 := Lib.hid hwd; have HPV := Lib.hid hpv
 have C2 := Lib.hid (show ∀ w', Below WD.heap.size WD w' → w'.cell? ⟨mb, 0, none⟩ = some (.slice (some ⟨pb, 0, none⟩) N pc) ∧ w'.cell? ⟨pb, v * 2, none⟩ = some (.int .i64 p0) ∧ w'.cell? ⟨pb, v * 2 + 1, none⟩ = some (.int .i64 p1) ∧ w'.cell? ⟨lb, 0, none⟩ = some (.int .i64 x0) ∧ w'.cell? ⟨lb, 1, none⟩ = some (.int .i64 x1) ∧ w'.cell? ⟨lb, 2, none⟩ = some (.int .i64 x2) ∧ w'.cell? ⟨lb, 3, none⟩ = some (.int .i64 x3) from fun w' hb => by
  have hh : Below w.heap.size w w' := hBD.trans (hb.mono hBD.size)
  have hm := H.out.below hh
  obtain ⟨ta, tc, -, hr⟩ := hm.read
  have e0 := hm.box.c 0 _ rfl
  rw [HNP.out] at e0
  have hx := (PX.out.below hb2)
  have e1 : Below w2.heap.size w2 w' := by
   have e1 : Below w2.heap.size w2 WD := by rw [← hwd]; exact (Below.refl _ _).drew'
   exact e1.trans (hb.mono e1.size)
  have hx := hx.below e1
  exact ⟨e0, (hr.pt HV.out).1, (hr.pt HV.out).2, hx.c 0 _ rfl, hx.c 1 _ rfl, hx.c 2 _ rfl, hx.c 3 _ rfl⟩)
 clear hpv hb2 hB2 hBD i0 i1 i2 i3
 go_wp2_with fail
 clear hlb hw1
 refine wp_region_noPanic ?_
 refine wp_region_held_drew (S := fun w' => w'.cell? ⟨mb, 0, none⟩ = some (.slice (some ⟨pb, 0, none⟩) N pc) ∧ w'.cell? ⟨pb, v * 2, none⟩ = some (.int .i64 p0) ∧ w'.cell? ⟨pb, v * 2 + 1, none⟩ = some (.int .i64 p1) ∧ w'.cell? ⟨lb, 0, none⟩ = some (.int .i64 x0) ∧ w'.cell? ⟨lb, 1, none⟩ = some (.int .i64 x1) ∧ w'.cell? ⟨lb, 2, none⟩ = some (.int .i64 x2) ∧ w'.cell? ⟨lb, 3, none⟩ = some (.int .i64 x3)) (by kernel_rfl) (C2.out _ (by rw [← hwd]; exact Below.refl _ _)) (fun hHeld => ?_)
 rw [hwd] at hHeld ⊢
 refine rU 0 _ _ ?_
 (try simp only [Act.put]);try simp only [sA,sZ,sS]
 refine rU 1 _ _ ?_
 (try simp only [Act.put]);try simp only [sA,sZ,sS]
 refine rU 2 _ _ ?_
 (try simp only [Act.put]);try simp only [sA,sZ,sS]
 refine rU 3 _ _ ?_
 (try simp only [Act.put]);try simp only [sA,sZ,sS]
 refine rU 4 _ _ ?_
 (try simp only [Act.put]);try simp only [sA,sZ,sS]
 refine rU 5 _ _ ?_
 (try simp only [Act.put]);try simp only [sA,sZ,sS]
 refine rU 6 _ _ ?_
 (try simp only [Act.put]);try simp only [sA,sZ,sS]
 refine rU 7 _ _ ?_
 (try simp only [Act.put]);try simp only [sA,sZ,sS]
 refine rU 8 _ _ ?_
 (try simp only [Act.put]);try simp only [sA,sZ,sS]
 refine reg_grab (fun WWx ax hWW hAA => ?_)
 have LEAF : ∀ (k gd c rb rc : Nat) (ts : List Int) (cb : Bool) (Wx : World), Below WD.heap.size WD Wx → WD.heap.size ≤ k → Box Wx k [.slice none 0 0, .slice none 0 0, .bool false] → (WD.heap.size ≤ gd ∧ gd < Wx.heap.size ∧ gd ≠ k ∧ WD.heap.size ≤ rb ∧ rb < Wx.heap.size ∧ rb ≠ k) → Good ts → IntsAt Wx gd (sortL ts) → SidesAt Wx rb (rimR S ts) → WWx 1 #[true, true, true, true, true, true, true, true, true, true, true, false] ((ax.put (some 22) (.agg #[.slice (some ⟨gd, 0, none⟩) ts.length c, .slice (some ⟨rb, 0, none⟩) (rimR S ts).length rc, .bool cb])).put (some 7) (.pointer (some ⟨k, 0, none⟩))) Wx := by
  intro k gd c rb rc ts cb Wx hbx hk pz hgd hgo hin hsi
  have hHeld := C2.out _ hbx
  rw [hWW, hAA]
  (try simp only [Act.put]);try simp only [sA,sZ,sS]
  refine reg_call 11 ?_ (by kernel_rfl) ?_ (fun K hK => ?_);rotate_left 1
  ·simp only [gA,gS,gZ]; exact rfl
  obtain ⟨wy, hwy_⟩ : ∃ wy, setAll Wx k 0 [.slice (some ⟨gd, 0, none⟩) ts.length c, .slice (some ⟨rb, 0, none⟩) (rimR S ts).length rc, .bool cb] = wy := ⟨_, rfl⟩
  refine wanted_go rfl ?_
  refine wp_store_box _ _ _ rfl [.slice (some ⟨gd, 0, none⟩) ts.length c, .slice (some ⟨rb, 0, none⟩) (rimR S ts).length rc, .bool cb] pz rfl rfl (by kernel_rfl) (by simp) rfl hwy_ ?_
  have hby : Below WD.heap.size WD wy := by rw [← hwy_]; exact below_setAll hbx hk _
  refine hK.out _ _ (C2.out _ hby) (fun hHeld => ?_)
  clear hK K
  (try simp only [Act.put]);try simp only [sA,sZ,sS]
  refine wpAnyH_done (by kernel_rfl) ?_ _
  refine NoPanic.normal ?_
  have hwx : Below w.heap.size w Wx := HWD.out.trans (hbx.mono HWD.out.size)
  have hwy : Below w.heap.size w wy := by rw [← hwy_]; exact below_setAll hwx (by have := HWD.out.size; omega) _
  have py : Box wy k [.slice (some ⟨gd, 0, none⟩) ts.length c, .slice (some ⟨rb, 0, none⟩) (rimR S ts).length rc, .bool cb] := by rw [← hwy_]; exact pz.setAll [.slice (some ⟨gd, 0, none⟩) ts.length c, .slice (some ⟨rb, 0, none⟩) (rimR S ts).length rc, .bool cb] rfl
  have hty : Turned Wx wy k := by rw [← hwy_]; exact turned_setAll _ _ (Turned.refl _ _)
  have hsy : wy.heap.size = Wx.heap.size := hty.size
  have hin' := hin.same (hty.block gd hgd.2.2.1)
  have hsi' := hsi.same (hty.block rb hgd.2.2.2.2.2)
  have hmy := H.out.below hwy
  obtain ⟨n, hn⟩ : ∃ n, ts.length = n := ⟨_, rfl⟩
  obtain ⟨hI, hR0, hR⟩ := HG.out ts hgo
  have hn9 : n ≤ 200000 := by have := hI.le; have := HSH.out; omega
  have hsl : (sortL ts).length = n := by rw [sortL_len]; exact hn
  rw [hn] at py ⊢
  have hofk : ∀ b, w.heap.size ≤ b → b < wy.heap.size → Off wy mb tv b := fun b h1 h2 => ⟨h2, by have := H.out.low.2.1; omega, fun e => by have := (H.out.row.lt b e).2; omega⟩
  have hwD := HWD.out.size
  have hkl := py.lt
  have OGD := Lib.hid (hofk gd (by omega) (by omega)); have ORB := Lib.hid (hofk rb (by omega) (by omega)); have OK := Lib.hid (hofk k (by omega) (by omega))
  have OPV : Hid (Parts wy mb tv pv pl) := Lib.hid (by
   rcases HPV.out with h | ⟨qb, c, h1, h2, ⟨h3, h4⟩, h5⟩
   ·exact .inl h
   ·have e : Below w2.heap.size w2 wy := by
     have e1 : Below w2.heap.size w2 WD := by rw [← HWD2.out]; exact (Below.refl _ _).drew'
     rw [← hwy_]; exact below_setAll (e1.trans (hbx.mono e1.size)) (by have := e1.size; omega) _
    exact .inr ⟨qb, c, h1, h2.same (e.block qb h4), hofk qb (by have := HB1.out.size; omega) (by have := e.size; omega), h5⟩)
  have PY := Lib.hid py; have HIN := Lib.hid hin'; have HSI := Lib.hid hsi'; have HMY := Lib.hid hmy; have HWY := Lib.hid hwy; have HI := Lib.hid hI; have HR0 := Lib.hid hR0; have HR := Lib.hid hR; have HSL := Lib.hid hsl; have HGO := Lib.hid hgo; have HN := Lib.hid hn
  have y0 := py.c 0 _ rfl
  clear hkl hwx hwy py hty hsy hin' hsi' hmy hI hR0 hR hsl hofk hwD hin hsi hgo hgd pz hbx hHeld
  go_wp2
  clear y0
  go_loopw [9, 26] (fun _ iv wr => ∃ i : Nat, i ≤ n ∧ iv = .int .i64 (i : Int) ∧ MeshO 33 41 wr lo mb pb pc tv P (dropN S (sortL ts) i) ∧ Mut wy wr mb tv tv) (fun _ iv _ => n - (intOf iv).toNat)
  case atStart => exact ⟨0, Nat.zero_le _, rfl, HMY.out, Mut.refl _ _ _⟩
  case round =>
   obtain ⟨i, hi, rfl, hm, hmu⟩ := hrel
   by_cases hlt : i < n
   ·have hyd : decide ((i : Int) < (n : Int)) = true := decide_eq_true (by omega)
    obtain ⟨z, hz⟩ : ∃ z, (sortL ts)[i]? = some z := ⟨_, List.getElem?_eq_getElem (by rw [HSL.out]; exact hlt)⟩
    obtain ⟨t, ht, htl⟩ := HI.out.is z ((sortL_perm ts).mem_iff.1 (List.mem_of_getElem? hz))
    subst ht
    have hz_ := (HIN.out.same (OGD.out.mut hmu).2) i _ hz
    have hdn := dropN_some (S := S) hz
    have hal : Alive (dropN S (sortL ts) i) t := dropN_alive (HLV.out t htl) (ins_sorted HI.out) hz
    obtain ⟨T, hT, hgT⟩ := hal
    have HDR := Lib.hid (Drop_any t T wr hm hT hgT)
    have HDN := Lib.hid hdn; have HMU := Lib.hid hmu
    have j1 : (0 : Int) ≤ (i : Int) := by omega
    have j2 : (i : Int) < (n : Int) := by omega
    clear hz hdn hT hgT hm hmu
    go_wp2_with fail
    refine HDR.out.mono ?_
    rintro e wd ⟨rfl, hmd, hmud⟩
    have FIN := Lib.hid (And.intro hmd (HMU.out.trans hmud))
    clear hmd hmud hz_
    go_wp2
    refine ⟨⟨i + 1, by omega, by go_num, ?_⟩, by simp [intOf]; omega⟩
    rw [HDN.out, Int.toNat_natCast]
    exact FIN.out
   ·obtain rfl : i = n := by omega
    obtain ⟨R, hRR⟩ : ∃ R, rimR S ts = R := ⟨_, rfl⟩
    obtain ⟨r, hr⟩ : ∃ r, R.length = r := ⟨_, rfl⟩
    have hsi := HSI.out.same (ORB.out.mut hmu).2
    have hr0 := HR0.out; have hr1 := HR.out
    have hle : (rimR S ts).length ≤ 3 * ts.length := by unfold rimR; have := inRow_le (rimP S ts ts.length); have := rimP_le S ts ts.length; omega
    rw [hRR] at hsi hr0 hr1 hle
    have h0r : 0 < r := by rw [← hr]; exact List.length_pos_iff.2 hr0
    have hdl := dropN_len S (sortL ts) i
    have hro : RimOkG (dropN S (sortL ts) i) R := fun s hs => by
     obtain ⟨u, j, e1, e2, e3, e4, e5⟩ := hr1 s hs
     exact ⟨u, j, e1, e4, e5, dropN_off (HLV.out u e3) (fun e => e2 ((sortL_perm ts).mem_iff.1 e)) (fun t ht => by
      obtain ⟨u, e, -⟩ := HI.out.is t ((sortL_perm ts).mem_iff.1 ht)
      rw [e]; omega) i⟩
    have hfi := fill_any (v : Int) R r rb rc pv pl wr hm (by omega) hr h0r (by rw [hdl]; have := HSH.out; have := HI.out.le; have := HN.out; omega) hro hsi (ORB.out.mut hmu).1 (OPV.out.mut hmu)
    have HFI := Lib.hid hfi
    have py := PY.out.same (OK.out.mut hmu).2
    rw [hRR, hr] at py
    have y1 := py.c 1 _ rfl
    have HMU := Lib.hid hmu; have HRR := Lib.hid hRR
    clear hsi hr0 hr1 hle hdl hro hfi py hmu hm hRR
    go_wp2_with fail
    refine HFI.out.mono ?_
    rintro e wf ⟨tv', rfl, hmf, hmuf⟩
    have FIN := Lib.hid (And.intro hmf (((Mut.of_below HWY.out (fun k hk => (H.out.row.lt k hk).2)).trans HMU.out).trans hmuf))
    clear hmf hmuf
    go_wp2
    go_end0
    refine ⟨ts, tv', rfl, HGO.out, ?_, FIN.out.2⟩
    unfold putM
    rw [HRR.out, HN.out]
    exact FIN.out.1
 rw [hWW, hAA]
 (try simp only [Act.put]);try simp only [sA,sZ,sS]
 refine reg_all2 9 10 _ _ (by kernel_rfl) rfl rfl (fun K hK => ?_) (fun K hK => ?_)
 ·go_simp
  refine (HDG.out WD (HWD.out.trans ((Below.refl _ _).mono HWD.out.size))).mono ?_
  rintro e wc ⟨gd, c, rb, rc, ts, cb, rfl, hgo, hin, hsi, ⟨hg1, hg2, hg3, hg4⟩, hbc⟩
  go_wp2_with fail
  refine hK.out _ _ (C2.out _ hbc) (fun hHeld => ?_)
  clear hK K
  (try simp only [Act.put]);try simp only [sA,sZ,sS]
  refine reg_call 10 ?_ (by kernel_rfl) ?_ (fun K hK => ?_);rotate_left 1
  ·simp only [gA,gS,gZ]; exact rfl
  obtain ⟨wb, hwb, pz, hbb, hsb⟩ := new_box wc _ rfl [.slice none 0 0, .slice none 0 0, .bool false] 175
  have hbx := hbc.trans (hbb.mono hbc.size)
  go_simp
  try rw [hwb]
  refine hK.out _ _ (C2.out _ hbx) (fun hHeld => ?_)
  clear hK K
  (try simp only [Act.put]);try simp only [sA,sZ,sS]
  have hL := LEAF wc.heap.size gd c rb rc ts cb wb hbx (by have := hbc.size; omega) pz ⟨by omega, by have := hbb.size; omega, by omega, by omega, by have := hbb.size; omega, by omega⟩ hgo (hin.same (hbb.block gd (by omega))) (hsi.same (hbb.block rb (by omega)))
  rw [hWW, hAA] at hL
  try simp only [Act.put] at hL
  try simp only [sA,sZ,sS] at hL
  exact hL
 ·obtain ⟨wb, hwb, pz, hbb, hsb⟩ := new_box WD _ rfl [.slice none 0 0, .slice none 0 0, .bool false] 175
  go_simp
  try rw [hwb]
  refine hK.out _ _ (C2.out _ hbb) (fun hHeld => ?_)
  clear hK K
  (try simp only [Act.put]);try simp only [sA,sZ,sS]
  refine reg_call 9 ?_ (by kernel_rfl) ?_ (fun K hK => ?_);rotate_left 1
  ·simp only [gA,gS,gZ]; exact rfl
  go_simp
  refine (HDG.out wb (HWD.out.trans (hbb.mono HWD.out.size))).mono ?_
  rintro e wc ⟨gd, c, rb, rc, ts, cb, rfl, hgo, hin, hsi, ⟨hg1, hg2, hg3, hg4⟩, hbc⟩
  go_wp2_with fail
  have hbx := hbb.trans (hbc.mono hbb.size)
  refine hK.out _ _ (C2.out _ hbx) (fun hHeld => ?_)
  clear hK K
  (try simp only [Act.put]);try simp only [sA,sZ,sS]
  have hL := LEAF WD.heap.size gd c rb rc ts cb wc hbx (Nat.le_refl _) (pz.below hbc) ⟨by omega, by omega, by omega, by omega, by omega, by omega⟩ hgo hin hsi
  rw [hWW, hAA] at hL
  try simp only [Act.put] at hL
  try simp only [sA,sZ,sS] at hL
  exact hL
end Go.Proofs.YtecnnpkpgbbfkaaGreat
/- grow's Insert; faultAt, where a place is no edge. Written by tools/grow4.py. -/
namespace Go.Proofs.YtecnnpkpgbbfkaaGreat
open Go.RowKit Go.MagM
set_option maxRecDepth 100000 in
set_option maxHeartbeats 4000000 in
theorem faultAt_off (mv : Value) (x0 x1 x2 x3 : Int) (hx : x0 ≠ 1) (w : World) : Calls Tryz.prog 114 #[mv, .agg #[.int .i64 x0, .int .i64 x1, .int .i64 x2, .int .i64 x3]] w fun e w' => e = .returned (.slice none 0 0) ∧ Below w.heap.size w w' := by
 obtain ⟨w1, hw1, px, hb1, hs1⟩ := new_box w _ rfl [.int .i64 x0, .int .i64 x1, .int .i64 x2, .int .i64 x3] 113
 have i0 := px.c 0 _ rfl
 have q1 : (x0 != 1) = true := by simpa using hx
 have q2 : (x0 == 1) = false := by simpa using hx
 have HB1 := Lib.hid hb1
 clear px hb1 hs1 hx
 go_enter Tryz.func114, Tryz.ntmps114
 go_wp2
 go_ret
 exact ⟨rfl, HB1.out⟩
set_option maxRecDepth 100000 in
set_option maxHeartbeats 16000000 in
theorem Insert_any {mb pb pc : Nat} {ta : Option Addr} {tc : Nat} {P : List (Int × Int)} {S : List TriM} (v : Nat) (p0 p1 x0 x1 x2 x3 cnt fr : Int) (Q : World → World → Prop) (w : World) (h : MeshR w mb pb pc ta tc P S) (hv : P[v]? = some (p0, p1))
  (hfd : ∀ W : World, Below w.heap.size w W → Calls Tryz.prog 67 #[.pointer (some ⟨mb, 0, none⟩), .agg #[.int .i64 p0, .int .i64 p1], .int .i64 fr, .int .i64 ((S.length : Nat) : Int)] W fun e w' => e = .returned (.tuple #[.agg #[.int .i64 x0, .int .i64 x1, .int .i64 x2, .int .i64 x3], .int .i64 cnt]) ∧ Below W.heap.size W w')
  (hput : x0 ≠ 2 → ∀ W : World, Below w.heap.size w W → Calls Tryz.prog 68 #[.pointer (some ⟨mb, 0, none⟩), .int .i64 (v : Int), .agg #[.int .i64 x0, .int .i64 x1, .int .i64 x2, .int .i64 x3]] W fun e w' => e = .returned (.tuple #[]) ∧ Q W w') :
  Calls Tryz.prog 25 #[.pointer (some ⟨mb, 0, none⟩), .int .i64 (v : Int), .int .i64 fr] w fun e w' => (x0 = 2 ∧ e = .returned (.bool false) ∧ Below w.heap.size w w') ∨ (x0 ≠ 2 ∧ e = .returned (.bool true) ∧ ∃ W, Below w.heap.size w W ∧ Q W w') := by
 have hvl := (List.getElem?_eq_some_iff.1 hv).1
 have e0 := h.box.c 0 _ rfl
 have HS := Lib.hid h
 obtain ⟨SL, hSL⟩ : ∃ SL, S.length = SL := ⟨_, rfl⟩
 obtain ⟨N, hN⟩ : ∃ N, P.length = N := ⟨_, rfl⟩
 rw [hN] at hvl e0
 rw [hSL] at hfd
 obtain ⟨qk, hqk⟩ : ∃ q, decide (x0 = 2) = q := ⟨_, rfl⟩
 have HV := Lib.hid hv; have HFD := Lib.hid hfd; have HPUT := Lib.hid hput; have HN := Lib.hid hN; have HSL := Lib.hid hSL; have HQK := Lib.hid hqk
 have j1 : ¬ ((v : Int) < 0) := by omega
 have j2 : ¬ ((N : Int) ≤ (v : Int)) := by omega
 have j3 : (0 : Int) ≤ (v : Int) := by omega
 have j4 : (v : Int) < (N : Int) := by omega
 clear h hv hfd hput hvl hN hSL hqk
 go_enter Tryz.func25, Tryz.ntmps25
 go_wp2
 obtain ⟨WD, hwd⟩ : ∃ WD, w.drew = WD := ⟨_, rfl⟩
 have hBD : Below w.heap.size w WD := by rw [← hwd]; exact (Below.refl _ _).drew'
 have HWD := Lib.hid hBD
 have C3 := Lib.hid (show ∀ w', Below WD.heap.size WD w' → w'.cell? ⟨mb, 0, none⟩ = some (.slice (some ⟨pb, 0, none⟩) N pc) ∧ w'.cell? ⟨mb, 1, none⟩ = some (.slice ta SL tc) ∧ w'.cell? ⟨pb, v * 2, none⟩ = some (.int .i64 p0) ∧ w'.cell? ⟨pb, v * 2 + 1, none⟩ = some (.int .i64 p1) from fun w' hb => by
  have hh : Below w.heap.size w w' := hBD.trans (hb.mono hBD.size)
  have hr := HS.out.below hh
  have e0 := hr.box.c 0 _ rfl; have e1 := hr.box.c 1 _ rfl
  rw [HN.out] at e0; rw [HSL.out] at e1
  exact ⟨e0, e1, (hr.pt HV.out).1, (hr.pt HV.out).2⟩)
 clear hBD e0
 refine wp_region_noPanic ?_
 refine wp_region_held_drew (S := fun w' => w'.cell? ⟨mb, 0, none⟩ = some (.slice (some ⟨pb, 0, none⟩) N pc) ∧ w'.cell? ⟨mb, 1, none⟩ = some (.slice ta SL tc) ∧ w'.cell? ⟨pb, v * 2, none⟩ = some (.int .i64 p0) ∧ w'.cell? ⟨pb, v * 2 + 1, none⟩ = some (.int .i64 p1)) (by kernel_rfl) (C3.out _ (by rw [← hwd]; exact Below.refl _ _)) (fun hHeld => ?_)
 rw [hwd] at hHeld ⊢
 refine rU 0 _ _ ?_
 (try simp only [Act.put]);try simp only [sA,sZ,sS]
 refine rU 1 _ _ ?_
 (try simp only [Act.put]);try simp only [sA,sZ,sS]
 refine rU 2 _ _ ?_
 (try simp only [Act.put]);try simp only [sA,sZ,sS]
 refine rU 3 _ _ ?_
 (try simp only [Act.put]);try simp only [sA,sZ,sS]
 refine rU 4 _ _ ?_
 (try simp only [Act.put]);try simp only [sA,sZ,sS]
 refine rU 5 _ _ ?_
 (try simp only [Act.put]);try simp only [sA,sZ,sS]
 refine rU 6 _ _ ?_
 (try simp only [Act.put]);try simp only [sA,sZ,sS]
 refine rU 7 _ _ ?_
 (try simp only [Act.put]);try simp only [sA,sZ,sS]
 refine rU 8 _ _ ?_
 (try simp only [Act.put]);try simp only [sA,sZ,sS]
 refine rU 9 _ _ ?_
 (try simp only [Act.put]);try simp only [sA,sZ,sS]
 refine rU 10 _ _ ?_
 (try simp only [Act.put]);try simp only [sA,sZ,sS]
 refine rU 11 _ _ ?_
 (try simp only [Act.put]);try simp only [sA,sZ,sS]
 refine rU 12 _ _ ?_
 (try simp only [Act.put]);try simp only [sA,sZ,sS]
 refine rU 13 _ _ ?_
 (try simp only [Act.put]);try simp only [sA,sZ,sS]
 refine reg_grab (fun WWx ax hWW hAA => ?_)
 have LEAF : ∀ (k : Nat) (Wx : World), Below WD.heap.size WD Wx → WD.heap.size ≤ k → Box Wx k [.int .i64 0, .int .i64 0, .int .i64 0, .int .i64 0] → WWx 2 #[true, true, true, true, true, true, true, true, true, true, true, true, true, true, true, true, true, true, true, false, false] (((((ax.put (some 35) (.tuple #[.agg #[.int .i64 x0, .int .i64 x1, .int .i64 x2, .int .i64 x3], .int .i64 cnt])).put (some 20) (.tuple #[.agg #[.int .i64 x0, .int .i64 x1, .int .i64 x2, .int .i64 x3], .int .i64 cnt])).put (some 36) (.agg #[.int .i64 x0, .int .i64 x1, .int .i64 x2, .int .i64 x3])).put (some 37) (.int .i64 cnt)).put (some 7) (.pointer (some ⟨k, 0, none⟩))) Wx := by
  intro k Wx hbx hk pz
  have hHeld := C3.out _ hbx
  rw [hWW, hAA]
  (try simp only [Act.put]);try simp only [sA,sZ,sS]
  refine reg_call 19 ?_ (by kernel_rfl) ?_ (fun K hK => ?_);rotate_left 1
  ·simp only [gA,gS,gZ]; exact rfl
  obtain ⟨wy, hwy_⟩ : ∃ wy, setAll Wx k 0 [.int .i64 x0, .int .i64 x1, .int .i64 x2, .int .i64 x3] = wy := ⟨_, rfl⟩
  refine wanted_go rfl ?_
  refine wp_store_box _ _ _ rfl [.int .i64 x0, .int .i64 x1, .int .i64 x2, .int .i64 x3] pz rfl rfl (by kernel_rfl) (by simp) rfl hwy_ ?_
  have hby : Below WD.heap.size WD wy := by rw [← hwy_]; exact below_setAll hbx hk _
  refine hK.out _ _ (C3.out _ hby) (fun hHeld => ?_)
  clear hK K
  (try simp only [Act.put]);try simp only [sA,sZ,sS]
  refine rU 20 _ _ ?_
  (try simp only [Act.put]);try simp only [sA,sZ,sS]
  refine wpAnyH_done (by kernel_rfl) ?_ _
  refine NoPanic.normal ?_
  have hwx : Below w.heap.size w Wx := HWD.out.trans (hbx.mono HWD.out.size)
  have hwy : Below w.heap.size w wy := by rw [← hwy_]; exact below_setAll hwx (by have := HWD.out.size; omega) _
  have py : Box wy k [.int .i64 x0, .int .i64 x1, .int .i64 x2, .int .i64 x3] := by rw [← hwy_]; exact pz.setAll [.int .i64 x0, .int .i64 x1, .int .i64 x2, .int .i64 x3] rfl
  have y0 := py.c 0 _ rfl; have y1 := py.c 1 _ rfl; have y2 := py.c 2 _ rfl; have y3 := py.c 3 _ rfl
  have HWY := Lib.hid hwy
  clear hwx hwy py pz hbx hHeld hk
  cases qk with
  | true =>
   obtain rfl : x0 = 2 := of_decide_eq_true HQK.out
   go_wp2
   go_ret
   first | exact .inl ⟨rfl, rfl, HWY.out⟩ | exact ⟨rfl, HWY.out⟩ | exact ⟨rfl, rfl, HWY.out⟩
  | false =>
   have hne := of_decide_eq_false HQK.out
   have q1 : (x0 == 2) = false := by simpa using hne
   have HPW := Lib.hid (HPUT.out hne wy HWY.out)
   have HNE := Lib.hid hne
   clear hne
   go_wp2_with fail
   refine HPW.out.mono ?_
   rintro e wp ⟨rfl, hq⟩
   have FIN := Lib.hid hq
   clear hq
   go_wp2
   go_ret
   exact .inr ⟨HNE.out, rfl, wy, HWY.out, FIN.out⟩
 rw [hWW, hAA]
 (try simp only [Act.put]);try simp only [sA,sZ,sS]
 refine reg_all2 14 18 _ _ (by kernel_rfl) rfl rfl (fun K hK => ?_) (fun K hK => ?_)
 ·go_simp
  refine (HFD.out WD (HWD.out.trans ((Below.refl _ _).mono HWD.out.size))).mono ?_
  rintro e wc ⟨rfl, hbc⟩
  go_wp2_with fail
  refine hK.out _ _ (C3.out _ hbc) (fun hHeld => ?_)
  clear hK K
  (try simp only [Act.put]);try simp only [sA,sZ,sS]
  refine rU 15 _ _ ?_
  (try simp only [Act.put]);try simp only [sA,sZ,sS]
  refine rU 16 _ _ ?_
  (try simp only [Act.put]);try simp only [sA,sZ,sS]
  refine rU 17 _ _ ?_
  (try simp only [Act.put]);try simp only [sA,sZ,sS]
  refine reg_call 18 ?_ (by kernel_rfl) ?_ (fun K hK => ?_);rotate_left 1
  ·simp only [gA,gS,gZ]; exact rfl
  obtain ⟨wb, hwb, pz, hbb, hsb⟩ := new_box wc _ rfl [.int .i64 0, .int .i64 0, .int .i64 0, .int .i64 0] 113
  have hbx := hbc.trans (hbb.mono hbc.size)
  go_simp
  try rw [hwb]
  refine hK.out _ _ (C3.out _ hbx) (fun hHeld => ?_)
  clear hK K
  (try simp only [Act.put]);try simp only [sA,sZ,sS]
  have hL := LEAF wc.heap.size wb hbx (by have := hbc.size; omega) pz
  rw [hWW, hAA] at hL
  try simp only [Act.put] at hL
  try simp only [sA,sZ,sS] at hL
  exact hL
 ·obtain ⟨wb, hwb, pz, hbb, hsb⟩ := new_box WD _ rfl [.int .i64 0, .int .i64 0, .int .i64 0, .int .i64 0] 113
  go_simp
  try rw [hwb]
  refine hK.out _ _ (C3.out _ hbb) (fun hHeld => ?_)
  clear hK K
  (try simp only [Act.put]);try simp only [sA,sZ,sS]
  refine reg_call 14 ?_ (by kernel_rfl) ?_ (fun K hK => ?_);rotate_left 1
  ·simp only [gA,gS,gZ]; exact rfl
  go_simp
  refine (HFD.out wb (HWD.out.trans (hbb.mono HWD.out.size))).mono ?_
  rintro e wc ⟨rfl, hbc⟩
  go_wp2_with fail
  have hbx := hbb.trans (hbc.mono hbb.size)
  refine hK.out _ _ (C3.out _ hbx) (fun hHeld => ?_)
  clear hK K
  (try simp only [Act.put]);try simp only [sA,sZ,sS]
  refine rU 15 _ _ ?_
  (try simp only [Act.put]);try simp only [sA,sZ,sS]
  refine rU 16 _ _ ?_
  (try simp only [Act.put]);try simp only [sA,sZ,sS]
  refine rU 17 _ _ ?_
  (try simp only [Act.put]);try simp only [sA,sZ,sS]
  have hL := LEAF WD.heap.size wc hbx (Nat.le_refl _) (pz.below hbc)
  rw [hWW, hAA] at hL
  try simp only [Act.put] at hL
  try simp only [sA,sZ,sS] at hL
  exact hL
end Go.Proofs.YtecnnpkpgbbfkaaGreat
/- The statements' edge and conflict (layer 11). Written by tools/cav6.py. -/
namespace Go.MagM
open Go.RowKit
theorem cors_real {P : List (Int × Int)} {T : TriM} (_hr : realT T = true) (h : ∀ i, i < 3 → InV P (T.v i)) : cors P T = [ptT P T 0, ptT P T 1, ptT P T 2] := by
 have h0 := h 0 (by omega); have h1 := h 1 (by omega); have h2 := h 2 (by omega)
 unfold InV at h0 h1 h2
 have hf : corF T = 0 := by
  unfold corF placeT
  have a0 : T.v 0 = T.v0 := rfl
  have a1 : T.v 1 = T.v1 := rfl
  have a2 : T.v 2 = T.v2 := rfl
  rw [if_neg (by omega), if_neg (by omega), if_neg (by omega)]; rfl
 unfold cors
 simp only [corsN, hf, List.nil_append]
 unfold corK
 rw [if_pos h0, if_pos h1, if_pos h2]; rfl
theorem cors_ghost {P : List (Int × Int)} {T : TriM} {j : Nat} (hj : j < 3) (hg : placeT T (-1) = (j : Int)) (h1 : InV P (T.v ((j + 1) % 3))) (h2 : InV P (T.v ((j + 2) % 3))) (h0 : T.v j = -1) : cors P T = [ptT P T ((j + 1) % 3), ptT P T ((j + 2) % 3)] := by
 unfold InV at h1 h2
 have hf : corF T = j + 1 := by unfold corF; rw [hg]; omega
 unfold cors
 simp only [corsN, hf, List.nil_append]
 obtain rfl | rfl | rfl : j = 0 ∨ j = 1 ∨ j = 2 := by omega
 all_goals (unfold corK; rw [if_pos h1, if_pos h2, if_neg (by simp [h0])]; rfl)
end Go.MagM
namespace Go.Proofs.YtecnnpkpgbbfkaaGreat
open Go.RowKit Go.MagM
end Go.Proofs.YtecnnpkpgbbfkaaGreat
/- The statements' fit (layer 9). -/
namespace Go.Proofs.YtecnnpkpgbbfkaaGreat
open Go.RowKit Go.MagM
theorem MeshO.sl {p e : TypeId} {w : World} {lo mb pb pc : Nat} {tv : Value} {P : List (Int × Int)} {S : List TriM} (h : MeshO p e w lo mb pb pc tv P S) (h0 : 0 < S.length) : ∃ tb tc, tv = .slice (some ⟨tb, 0, none⟩) S.length tc ∧ MeshR w mb pb pc (some ⟨tb, 0, none⟩) tc P S := by
  obtain ⟨t, ht⟩ : ∃ t, S[0]? = some t := ⟨_, List.getElem?_eq_getElem h0⟩
  obtain ⟨tb, tc, rfl⟩ := h.slot ht
  obtain ⟨ta, tc', e, hr⟩ := h.read
  simp only [Value.slice.injEq] at e
  obtain ⟨rfl, -, rfl⟩ := e
  exact ⟨tb, tc, rfl, hr⟩
end Go.Proofs.YtecnnpkpgbbfkaaGreat
/- Maps from ints to 1 (sets of numbers); bytes in a row; slots of which some are gone. -/
namespace Go.MagM
open Go.RowKit Go.Maps
/-- Bytes that come in. -/
def BytesAt (w : World) (ao : Option Addr) (l : List Int) : Prop :=
 ∀ i x, l[i]? = some x → ∃ b o, ao = some ⟨b, o, none⟩ ∧ w.cell? ⟨b, o + i, none⟩ = some (.int .u8 x) ∧ 0 ≤ x ∧ x < 256
theorem BytesAt.below {w w' : World} {ao : Option Addr} {l : List Int} (h : BytesAt w ao l) (hb : Below w.heap.size w w') : BytesAt w' ao l := by
 intro i x hi
 obtain ⟨b, o, h0, h1, h2⟩ := h i x hi
 have hlt := World.block_lt_of_cell? w _ h1
 exact ⟨b, o, h0, (hb.cell (p := ⟨b, o + i, none⟩) hlt).trans h1, h2⟩
/-- Of n slots those of D are gone. -/
structure SlotsD (n : Nat) (S : List TriM) (D : List Nat) : Prop where
 len : S.length = n
 gone : ∀ (t : Nat) (T : TriM), S[t]? = some T → (goneB T = true ↔ t ∈ D)
 lt : ∀ t, t ∈ D → t < n
theorem goneTri_gone : goneB goneTri = true := by decide
theorem SlotsD.drop {n : Nat} {S : List TriM} {D : List Nat} (h : SlotsD n S D) {t : Nat} (ht : t < n) : SlotsD n (S.set t goneTri) (D ++ [t]) := by
 refine ⟨by rw [List.length_set]; exact h.len, fun u T hu => ?_, fun u hu => ?_⟩
 ·rw [List.getElem?_set] at hu
  split at hu
  ·rename_i e; subst e
   split at hu
   ·cases hu; rw [goneTri_gone]; simp
   ·cases hu
  ·rename_i e
   rw [h.gone u T hu, List.mem_append, List.mem_singleton]
   exact ⟨.inl, fun hx => hx.elim id fun hx => absurd hx.symm e⟩
 ·rcases List.mem_append.1 hu with h1 | h1
  ·exact h.lt u h1
  ·simp at h1; omega
theorem SlotsD.alive {n : Nat} {S : List TriM} {D : List Nat} (h : SlotsD n S D) {t : Nat} {T : TriM} (hT : S[t]? = some T) (ht : t ∉ D) : goneB T = false := by
 cases hg : goneB T with
 | false => rfl
 | true => exact absurd ((h.gone t T hT).1 hg) ht
theorem SlotsD.free_none {n : Nat} {S : List TriM} (h : SlotsD n S []) : freeK S = none := by
 unfold freeK
 rw [List.findIdx?_eq_none_iff]
 intro T hT
 obtain ⟨j, hj⟩ := List.mem_iff_getElem?.1 hT
 exact h.alive hj (by simp)
theorem newT_alive : goneB (newT 0 1 2) = false := by decide
theorem SlotsD.make {n : Nat} {S : List TriM} {D D' : List Nat} (h : SlotsD n S D) {k : Nat} (hD : ∀ x, x ∈ D' ↔ x ∈ D ∧ x ≠ k) : SlotsD n (S.set k (newT 0 1 2)) D' := by
 refine ⟨by rw [List.length_set]; exact h.len, fun u T hu => ?_, fun u hu => h.lt u ((hD u).1 hu).1⟩
 rw [List.getElem?_set] at hu
 split at hu
 ·rename_i e; subst e
  split at hu
  ·cases hu; rw [newT_alive, hD]; simp
  ·cases hu
 ·rename_i e
  rw [h.gone u T hu, hD]
  simp only [ne_eq, iff_self_and]
  intro _ e'; exact e e'.symm
end Go.MagM
namespace Go.Proofs.YtecnnpkpgbbfkaaGreat
open Go.RowKit Go.MagM Go.Maps
end Go.Proofs.YtecnnpkpgbbfkaaGreat
/- slices.Grow, Concat, Min over ints. -/
namespace Go.MagM
open Go.RowKit
section
variable {P : Program}
/-- append, of nothing too. -/
theorem run_append_all (w : World) (base : Nat) (t ty e : TypeId) (i : TypeInfo) (z : Value) (size bytes : Nat) (ht : P.underlying t = some (.slice e)) (hi : P.info? e = some i) (hz : i.zero = some z)
  (hsize : i.size = size) (hby : i.bytes = bytes) (hzs : z.cells.size = size) (hzw : ∀ u ∈ z.cells.toList, NoWord u)
  (v : Value) (n : Nat) (xs : List Value) (hrow : RowN w base e size v n xs)
  (a : Addr) (m c : Nat) (news : List Value) (hl : news.length = m * size) (hnews : ∀ j u, news[j]? = some u → w.cell? (a.add j) = some u) (h1 : ∀ u ∈ news, u.oneCell' = true) (hnw : ∀ u ∈ news, NoWord u)
  (h63 : n + m ≤ maxLen) (hbytes : (n + m) * bytes ≤ 140737488355328) (hbase : base ≤ w.heap.size) :
  ∃ v' w', (Builtin.append_ #[t, t] ty #[v, .slice (some a) m c]).run P w = .ok v' w' ∧ RowN w' base e size v' (n + m) (xs ++ news) ∧ w.grownBy w' v.ownBlock ∧ Kept w w' := by
 by_cases hm : m = 0
 ·subst hm
  obtain rfl : news = [] := List.eq_nil_of_length_eq_zero (by omega)
  refine ⟨v, w, ?_, by rw [List.append_nil]; exact hrow, ⟨rfl, rfl, rfl, Nat.le_refl _, fun k _ _ => rfl⟩, Kept.refl w⟩
  rcases hrow.2 with ⟨rfl, rfl⟩ | ⟨g, cap, cur, rfl, _, _, hnc, _⟩
  ·simp [Builtin.append_, run_underlying ht, sizeOf, typeInfo, hi, Builtin.lenOf, Builtin.firstCells, loadCells, loadCellsFrom]
  ·simp [Builtin.append_, run_underlying ht, sizeOf, typeInfo, hi, Builtin.lenOf, Builtin.firstCells, loadCells, loadCellsFrom, storeCells, hnc]
 ·exact run_append_row w base t ty e i z size bytes ht hi hz hsize hby hzs hzw v n xs hrow a m c news (by omega) hl hnews h1 hnw h63 hbytes hbase
/-- append of so many zeros to nothing: room for as many. -/
theorem run_append_made (w : World) (base : Nat) (t u ty e : TypeId) (i : TypeInfo) (z : Value) (ht : P.underlying t = some (.slice e)) (hu : P.underlying u = some (.int .i64)) (hi : P.info? e = some i) (hz : i.zero = some z)
  (hzs : z.cells.size = i.size) (hzw : ∀ u ∈ z.cells.toList, NoWord u) (hs0 : 0 < i.size)
  (n : Nat) (h0 : 0 < n) (h63 : n ≤ maxLen) (hbytes : n * i.bytes ≤ 140737488355328) (hbase : base ≤ w.heap.size) :
  ∃ g c w', (Builtin.append_ #[t, u] ty #[.slice none 0 0, .int .i64 (n : Int)]).run P w = .ok (.slice (some ⟨g, 0, none⟩) n c) w' ∧ n ≤ c ∧ RowN w' base e i.size (.slice (some ⟨g, 0, none⟩) 0 c) 0 [] ∧ Below w.heap.size w w' := by
 have hge := grownCap_ge w n 0 e
 have hcm : grownCap w n 0 e ≤ maxLen := grownCap_le_maxLen w n 0 e h63
 have hm : maxLen = 9223372036854775807 := rfl
 refine ⟨w.heap.size, grownCap w n 0 e, w.drew.alloc (.cells (Builtin.zeroCells z.cells n ++ Builtin.zeroCells z.cells (grownCap w n 0 e - n)) e), ?_, hge, ⟨by simp, .inr ⟨w.heap.size, _, _, rfl, hbase, heap_alloc_new w.drew _, Nat.zero_le _, hcm, ?_, by simp, ?_⟩⟩, (Below.refl _ _).drew'.alloc (Nat.le_refl _) _⟩
 ·have hn : ¬ n = 0 := by omega
  have hns : ¬ n * i.size = 0 := Nat.ne_of_gt (Nat.mul_pos h0 hs0)
  have hw : IntKind.i64.wrap (n : Int) = (n : Int) := by rw [IntKind.wrap_i64]; omega
  have hneg : ¬ (n : Int) < 0 := by omega
  have h48 : ¬ (281474976710656 : Int) < (n : Int) * (i.bytes : Int) := by
   have : ((n * i.bytes : Nat) : Int) = (n : Int) * (i.bytes : Int) := by push_cast; rfl
   omega
  have h63' : ¬ (9223372036854775807 < (n : Int)) := by omega
  have h48' : ¬ (281474976710656 < Builtin.nextslicecap n 0 * i.bytes) := by rw [nextslicecap_zero h0]; omega
  simp [Builtin.append_, run_underlying ht, run_underlying hu, sizeOf, typeInfo, zeroValue, hi, hz, hw, hneg, h48, hn, hns, h63', h48', Question.forced, run_firstCells_none, newRow, grownCap, asInt, asIntOf]
 ·rw [Array.size_append, size_zeroCells, size_zeroCells, hzs, ← Nat.add_mul]
  congr 1; omega
 ·intro u hu
  rw [Array.toList_append, List.mem_append] at hu
  rcases hu with hu | hu
  ·exact noWord_zero hzw _ u hu
  ·exact noWord_zero hzw _ u hu
theorem wp_append_two {w : World} {o : Oper} {a : Act} {K : Act → World → Prop} {Q : Exit → Act → World → Prop} (s x : Operand) (t t2 : TypeId)
  (ho : o.op = .call { callee := .builtin .append, args := #[s, x], argTypes := #[t, t2] })
  {v v' : Value} {u : Value} {w' : World} (hs : a.eval s = v) (hx : a.eval x = u) (hr : (Builtin.append_ #[t, t2] o.type #[v, u]).run P w = .ok v' w')
  (h : K (a.put o.dst v') w') : o.wp P a w K Q := by
 unfold Oper.wp execOp
 simp only [ho, resolve, invoke, builtin, Sem.run_bind, Sem.run_pure, Result.andThen_ok, List.map_toArray, List.map_cons, List.map_nil, hs, hx, hr]
 exact h
theorem wpList_append_two {ops : Array Oper} {rest : List Oper} {w : World} {o : Oper} {a : Act} {Q : Exit → Act → World → Prop} (hgd : o.guard = none) (s x : Operand) (t t2 : TypeId)
  (ho : o.op = .call { callee := .builtin .append, args := #[s, x], argTypes := #[t, t2] })
  {v v' : Value} {u : Value} {w' : World} (hs : a.eval s = v) (hx : a.eval x = u) (hr : (Builtin.append_ #[t, t2] o.type #[v, u]).run P w = .ok v' w')
  (h : wpList P ops Q rest (a.put o.dst v') w') : wpList P ops Q (o :: rest) a w := wpList_plain hgd fun _ hK => wp_append_two s x t t2 ho hs hx hr (hK _ _ h)
end
/-- The least of the first so many. -/
def minZ (zs : List Int) : Nat → Int
 | 0 => zs.headD 0
 | k + 1 => min (minZ zs k) (zs.getD k 0)
theorem minZ_mem {zs : List Int} (h0 : 0 < zs.length) : ∀ k, k ≤ zs.length → minZ zs k ∈ zs
 | 0, _ => by
  cases zs with
  | nil => simp at h0
  | cons a r => simp [minZ]
 | k + 1, hk => by
  have h := minZ_mem h0 k (by omega)
  rw [minZ]
  have e : zs.getD k 0 = zs[k] := by simp [show k < zs.length by omega]
  rw [e]
  rcases Int.le_total (minZ zs k) zs[k] with g | g
  ·rw [Int.min_eq_left g]; exact h
  ·rw [Int.min_eq_right g]; exact List.getElem_mem (by omega)
theorem idxZ_mem {zs : List Int} {x : Int} (h : x ∈ zs) : ∃ k : Nat, idxZ zs x = (k : Int) ∧ k < zs.length := by
 unfold idxZ
 cases hf : zs.findIdx? (· == x) with
 | none =>
  rw [List.findIdx?_eq_none_iff] at hf
  exact absurd (hf x h) (by simp)
 | some k =>
  rw [List.findIdx?_eq_some_iff_getElem] at hf
  exact ⟨k, rfl, hf.1⟩
/-- A border, the least point first. -/
def hullL (l : List Int) : List Int := l.drop (idxZ l (minZ l l.length)).toNat ++ l.take (idxZ l (minZ l l.length)).toNat
/-- Two rows, as many of them as have come. -/
def catK (xs ys : List Value) : Nat → List Value
 | 0 => []
 | 1 => xs
 | _ => xs ++ ys
end Go.MagM
namespace Go.Proofs.YtecnnpkpgbbfkaaGreat
open Go.RowKit Go.MagM
set_option maxRecDepth 100000 in
set_option maxHeartbeats 4000000 in
theorem growI_any (n : Nat) (h0 : 0 < n) (hn9 : n ≤ 1000000) (w : World) :
  Calls Tryz.prog 104 #[.slice none 0 0, .int .i64 (n : Int)] w fun e w' => ∃ g c, e = .returned (.slice (some ⟨g, 0, none⟩) 0 c) ∧ RowN w' w.heap.size 3 1 (.slice (some ⟨g, 0, none⟩) 0 c) 0 [] ∧ Below w.heap.size w w' := by
 obtain ⟨i0, hi, hz0, hz1, hz2⟩ := info_parts infoI
 obtain ⟨g, c, wa, hrun, hnc, hrow, hb⟩ := run_append_made (P := Tryz.prog) w w.heap.size 44 3 44 3 i0 (.int .i64 0) (by kernel_rfl) (by kernel_rfl) hi hz0 (by rw [hz1]; rfl) (by intro u hu; simp [Value.cells] at hu; subst hu; exact NoWord.int _) (by omega) n h0 (by unfold maxLen; omega) (by rw [hz2]; omega) (Nat.le_refl _)
 rw [hz1] at hrow
 have HR := Lib.hid hrow; have HB := Lib.hid hb
 clear hrow hb hi hz0 hz1 hz2
 have hp : (0 : Int) < (n : Int) := by omega
 go_enter Tryz.func104, Tryz.ntmps104
 go_wp2_with (refine wpList_append_two rfl _ _ 44 3 rfl rfl rfl hrun ?_)
 clear hrun
 go_wp2
 go_ret
 exact ⟨g, c, rfl, HR.out, HB.out⟩
set_option maxRecDepth 100000 in
set_option maxHeartbeats 4000000 in
theorem minI_any (g n c : Nat) (zs : List Int) (w : World) (hn : zs.length = n) (h0 : 0 < n) (hn9 : n ≤ 1000000) (hc : ∀ j v, zs[j]? = some v → w.cell? ⟨g, j, none⟩ = some (.int .i64 v)) :
  Calls Tryz.prog 61 #[.slice (some ⟨g, 0, none⟩) n c] w fun e w' => e = .returned (.int .i64 (minZ zs n)) ∧ w = w' := by
 obtain ⟨z0, hz0⟩ : ∃ z, zs[0]? = some z := ⟨_, List.getElem?_eq_getElem (by omega)⟩
 have c0 := hc 0 z0 hz0
 have h1 : minZ zs 1 = z0 := by
  cases zs with
  | nil => simp at hz0
  | cons a r => simp at hz0; subst hz0; simp [minZ]
 have HC := Lib.hid hc; have HN := Lib.hid hn; have H1 := Lib.hid h1
 clear hc hn h1 hz0
 have hn1 : ¬ (n : Int) < 1 := by omega
 go_enter Tryz.func61, Tryz.ntmps61
 go_wp2
 clear c0
 go_loop [3, 4] (fun mv iv => ∃ k : Nat, 1 ≤ k ∧ k ≤ n ∧ iv = .int .i64 (k : Int) ∧ mv = .int .i64 (minZ zs k)) (fun _ iv => n - (intOf iv).toNat)
 case atStart => exact ⟨1, by omega, by omega, rfl, by rw [H1.out]⟩
 case round =>
  obtain ⟨k, hk1, hk, rfl, rfl⟩ := hrel
  by_cases hlt : k < n
  ·obtain ⟨y, hy⟩ : ∃ y, zs[k]? = some y := ⟨_, List.getElem?_eq_getElem (by rw [HN.out]; exact hlt)⟩
   have hcell := HC.out k y hy
   have HM := Lib.hid (show minZ zs (k + 1) = min (minZ zs k) y by rw [minZ]; congr 1; simp [List.getD, hy])
   obtain ⟨m, hm⟩ : ∃ m, minZ zs k = m := ⟨_, rfl⟩
   have HMM := Lib.hid hm
   rw [hm]
   have b1 : (0 : Int) ≤ (k : Int) := by omega
   have b2 : (k : Int) < (n : Int) := by omega
   clear hy hm
   go_wp2
   go_round
   case rel =>
    refine ⟨k + 1, by omega, by omega, by go_num, ?_⟩
    rw [HM.out, HMM.out] <;> congr 1 <;> (by_cases hc : y < m <;> first | (rw [if_pos hc]; omega) | (rw [if_neg hc]; omega) | omega)
   case measure => simp [intOf]; omega
  ·obtain rfl : k = n := by omega
   go_wp2
   go_ret
   exact ⟨rfl, rfl⟩
set_option maxRecDepth 100000 in
set_option maxHeartbeats 4000000 in
theorem concatI_any (sb sc n1 c1 n2 c2 : Nat) (a b : Addr) (xs ys : List Value) (w : World) (h0 : 0 < n1 + n2) (h9 : n1 + n2 ≤ 1000000) (hx : xs.length = n1) (hy : ys.length = n2) (hs : Box w sb [.slice (some a) n1 c1, .slice (some b) n2 c2])
  (hcx : ∀ j u, xs[j]? = some u → w.cell? (a.add j) = some u) (hcy : ∀ j u, ys[j]? = some u → w.cell? (b.add j) = some u) (h1 : ∀ u ∈ xs ++ ys, ∃ z : Int, u = .int .i64 z) :
  Calls Tryz.prog 62 #[.slice (some ⟨sb, 0, none⟩) 2 sc] w fun e w' => ∃ g c, e = .returned (.slice (some ⟨g, 0, none⟩) (n1 + n2) c) ∧ RowN w' w.heap.size 3 1 (.slice (some ⟨g, 0, none⟩) (n1 + n2) c) (n1 + n2) (xs ++ ys) ∧ Below w.heap.size w w' := by
 obtain ⟨i0, hi, hz0, hz1, hz2⟩ := info_parts infoI
 have HI := Lib.hid hi; have HZ0 := Lib.hid hz0; have HZ1 := Lib.hid hz1; have HZ2 := Lib.hid hz2
 have hone : ∀ u ∈ xs ++ ys, u.oneCell' = true := fun u hu => by obtain ⟨z, rfl⟩ := h1 u hu; rfl
 have hnow : ∀ u ∈ xs ++ ys, NoWord u := fun u hu => by obtain ⟨z, rfl⟩ := h1 u hu; exact NoWord.int _
 have d0 := hs.c 0 _ rfl; have d1 := hs.c 1 _ rfl
 have HS := Lib.hid hs; have HX := Lib.hid hx; have HY := Lib.hid hy; have HCX := Lib.hid hcx; have HCY := Lib.hid hcy; have HONE := Lib.hid hone; have HNOW := Lib.hid hnow
 clear hi hz0 hz1 hz2 hs hx hy hcx hcy hone hnow h1
 obtain ⟨sz, hsz⟩ : ∃ f : Nat → Nat, f = fun k => if k = 0 then 0 else if k = 1 then n1 else n1 + n2 := ⟨_, rfl⟩
 have s0 : sz 0 = 0 := by rw [hsz]; rfl
 have s1 : sz 1 = n1 := by rw [hsz]; rfl
 have s2 : sz 2 = n1 + n2 := by rw [hsz]; rfl
 clear hsz
 have S0 := Lib.hid s0; have S1 := Lib.hid s1; have S2 := Lib.hid s2
 clear s0 s1 s2
 go_enter Tryz.func62, Tryz.ntmps62
 go_wp2
 go_loop [3, 5, 11] (fun sv _ iv => ∃ k : Nat, k ≤ 2 ∧ iv = .int .i64 (k : Int) ∧ sv = .int .i64 (sz k : Int)) (fun _ _ iv => 2 - (intOf iv).toNat)
 case atStart => exact ⟨0, by omega, rfl, by rw [S0.out]; rfl⟩
 case round =>
  obtain ⟨k, hk, rfl, rfl⟩ := hrel
  obtain rfl | rfl | rfl : k = 0 ∨ k = 1 ∨ k = 2 := by omega
  ·rw [S0.out]
   have n1b : ¬ (n1 : Int) < 0 := by omega
   go_wp2
   go_round
   case rel => exact ⟨1, by omega, rfl, by rw [S1.out]⟩
   case measure => simp [intOf]
  ·rw [S1.out]
   have n1b : ¬ ((n1 : Int) + (n2 : Int)) < 0 := by omega
   go_wp2
   go_round
   case rel => exact ⟨2, by omega, rfl, by rw [S2.out]; go_num⟩
   case measure => simp [intOf]
  ·rw [S2.out]
   have HG := Lib.hid (growI_any (n1 + n2) h0 h9 w)
   have e2 : ((2 : Nat) : Int) = 2 := rfl
   clear d0 d1
   go_wp2_with fail
   refine HG.out.mono ?_
   rintro e wg ⟨g, c, rfl, hrow, hb⟩
   have hs2 := HS.out.below hb
   have d0 := hs2.c 0 _ rfl; have d1 := hs2.c 1 _ rfl
   have HROW := Lib.hid hrow; have HB := Lib.hid hb
   have hbs := hb.size
   clear hrow hb hs2
   go_wp2
   clear d0 d1
   go_loopw [6, 8, 27] (fun nv _ iv wr => ∃ k : Nat, k ≤ 2 ∧ iv = .int .i64 (k : Int) ∧ RowN wr w.heap.size 3 1 nv (sz k) (catK xs ys k) ∧ Below w.heap.size w wr) (fun _ _ iv _ => 2 - (intOf iv).toNat)
   case atStart => exact ⟨0, by omega, rfl, by rw [S0.out]; exact HROW.out, HB.out⟩
   case round =>
    obtain ⟨k, hk, rfl, hrow, hb⟩ := hrel
    have hs2 := HS.out.below hb
    have d0 := hs2.c 0 _ rfl; have d1 := hs2.c 1 _ rfl
    have hbs := hb.size
    obtain rfl | rfl | rfl : k = 0 ∨ k = 1 ∨ k = 2 := by omega
    ·rw [S0.out] at hrow
     obtain ⟨v', w', hrun, hrow', hgr, -⟩ := run_append_all (P := Tryz.prog) wr w.heap.size 44 44 3 i0 (.int .i64 0) 1 8 (by kernel_rfl) HI.out HZ0.out HZ1.out HZ2.out rfl (by intro u hu; simp [Value.cells] at hu; subst hu; exact NoWord.int _) _ 0 _ hrow a n1 c1 xs (by rw [HX.out]; omega)
      (fun j u hj => (hb.cell (World.block_lt_of_cell? w _ (HCX.out j u hj))).trans (HCX.out j u hj)) (fun u hu => HONE.out u (by simp [hu])) (fun u hu => HNOW.out u (by simp [hu])) (by unfold maxLen; omega) (by omega) hbs
     have HR := Lib.hid hrow'; have HB2 := Lib.hid (hb.grown hgr hbs (fun q hq => (hrow.lt q hq).1))
     clear hrow hb hs2 hrow' hgr
     go_wp2_with (refine wpList_append_row rfl _ _ 44 rfl rfl rfl hrun ?_)
     clear hrun d0 d1
     go_wp2
     exact ⟨⟨1, by omega, rfl, by rw [S1.out]; simpa [catK] using HR.out, HB2.out⟩, by simp [intOf]⟩
    ·rw [S1.out] at hrow
     obtain ⟨v', w', hrun, hrow', hgr, -⟩ := run_append_all (P := Tryz.prog) wr w.heap.size 44 44 3 i0 (.int .i64 0) 1 8 (by kernel_rfl) HI.out HZ0.out HZ1.out HZ2.out rfl (by intro u hu; simp [Value.cells] at hu; subst hu; exact NoWord.int _) _ n1 _ hrow b n2 c2 ys (by rw [HY.out]; omega)
      (fun j u hj => (hb.cell (World.block_lt_of_cell? w _ (HCY.out j u hj))).trans (HCY.out j u hj)) (fun u hu => HONE.out u (by simp [hu])) (fun u hu => HNOW.out u (by simp [hu])) (by unfold maxLen; omega) (by omega) hbs
     have HR := Lib.hid hrow'; have HB2 := Lib.hid (hb.grown hgr hbs (fun q hq => (hrow.lt q hq).1))
     clear hrow hb hs2 hrow' hgr
     go_wp2_with (refine wpList_append_row rfl _ _ 44 rfl rfl rfl hrun ?_)
     clear hrun d0 d1
     go_wp2
     exact ⟨⟨2, by omega, rfl, by rw [S2.out]; simpa [catK] using HR.out, HB2.out⟩, by simp [intOf]⟩
    ·rw [S2.out] at hrow
     have hrow2 : RowN wr w.heap.size 3 1 _ (n1 + n2) (xs ++ ys) := hrow
     have HB2 := Lib.hid hb
     rcases hrow2.2 with ⟨h1, h2⟩ | ⟨g2, cap, cur, h1, -⟩
     ·omega
     ·have HR := Lib.hid hrow2
      have e2 : ((2 : Nat) : Int) = 2 := rfl
      clear hrow hb hs2 hrow2 d0 d1
      subst h1
      go_wp2
      go_ret
      exact ⟨g2, cap, rfl, HR.out, HB2.out⟩
end Go.Proofs.YtecnnpkpgbbfkaaGreat
/- mesh's Hull. Written by tools/mesh16.py. -/
namespace Go.Proofs.YtecnnpkpgbbfkaaGreat
open Go.RowKit Go.MagM Go.Shelf
theorem intCells_app (l k : List Int) : intCells (l ++ k) = intCells l ++ intCells k := by unfold intCells; rw [List.map_append]
theorem intCells_get {l : List Int} {j : Nat} {z : Int} (h : l[j]? = some z) : (intCells l)[j]? = some (.int .i64 z) := by unfold intCells; rw [List.getElem?_map, h]; rfl
theorem border_le (S : List TriM) : (borderM S).length ≤ S.length := by
 unfold borderM
 rw [List.length_reverse]
 unfold rimZ
 rw [List.length_map]
 exact walkM_len _ _ _ _ _
set_option maxRecDepth 100000 in
set_option maxHeartbeats 8000000 in
theorem Hull_any {mb pb pc : Nat} {ta : Option Addr} {tc : Nat} {P : List (Int × Int)} {S : List TriM} (w : World) (h : MeshR w mb pb pc ta tc P S) (hP0 : P ≠ []) (hne : borderM S ≠ []) :
  Calls Tryz.prog 20 #[.pointer (some ⟨mb, 0, none⟩)] w fun e w' => ∃ g c, e = .returned (.slice (some ⟨g, 0, none⟩) (borderM S).length c) ∧ Box w' g (intCells (hullL (borderM S))) ∧ w.heap.size ≤ g ∧ g < w'.heap.size ∧ Below w.heap.size w w' := by
 have hbo := border_room w h hP0 hne
 have hble := border_le S
 have hsh := h.short.2
 obtain ⟨L, hL⟩ : ∃ L, borderM S = L := ⟨_, rfl⟩
 rw [hL] at hbo hne hble ⊢
 obtain ⟨n, hn⟩ : ∃ n, L.length = n := ⟨_, rfl⟩
 rw [hn] at hbo hble
 have h0 : 0 < n := by
  rw [← hn]
  exact List.length_pos_iff.2 hne
 have h9 : n ≤ 1000000 := by omega
 have HBO := Lib.hid hbo; have HN := Lib.hid hn; have HN9 := Lib.hid h9
 obtain ⟨k, hk, hkn⟩ := idxZ_mem (minZ_mem (zs := L) (by omega) L.length (Nat.le_refl _))
 have hhl : hullL L = L.drop k ++ L.take k := by unfold hullL; rw [hk, Int.toNat_natCast]
 rw [hn] at hk hkn ⊢
 rw [hhl]
 have HK := Lib.hid hk
 clear hbo hn h9 hne hble hsh hL h hP0 hhl hk
 have e0 : ((n : Int) == 0) = false := by simp; omega
 have e00 : (n == 0) = false := by simp; omega
 go_enter Tryz.func20, Tryz.ntmps20
 go_wp2_with fail
 refine HBO.out.mono ?_
 rintro e w1 ⟨g, c, rfl, hcap, hbx, hg1, hg2, hb1⟩
 have hcz : ∀ j v, L[j]? = some v → w1.cell? ⟨g, j, none⟩ = some (.int .i64 v) := fun j v hj => hbx.c j _ (intCells_get hj)
 have HMI := Lib.hid (minI_any g n c L w1 HN.out h0 HN9.out hcz)
 have HIX := Lib.hid (index_any g 0 n c L (minZ L n) w1 HN.out HN9.out (fun j v hj => by rw [Nat.zero_add]; exact hcz j v hj))
 rw [HK.out] at HIX
 have HC1 := Lib.hid (show ∀ j u, (intCells (L.drop k))[j]? = some u → w1.cell? ((⟨g, k, none⟩ : Addr).add j) = some u from fun j u hj => by
  rw [addr_add]
  unfold intCells at hj
  rw [List.getElem?_map, List.getElem?_drop] at hj
  cases hz : L[k + j]? with
  | none => rw [hz] at hj; cases hj
  | some z => rw [hz] at hj; simp at hj; subst hj; exact hcz _ _ hz)
 have HC2 := Lib.hid (show ∀ j u, (intCells (L.take k))[j]? = some u → w1.cell? ((⟨g, 0, none⟩ : Addr).add j) = some u from fun j u hj => by
  rw [addr_add, Nat.zero_add]
  unfold intCells at hj
  rw [List.getElem?_map, List.getElem?_take] at hj
  split at hj
  ·cases hz : L[j]? with
   | none => rw [hz] at hj; cases hj
   | some z => rw [hz] at hj; simp at hj; subst hj; exact hcz _ _ hz
  ·cases hj)
 have HB1 := Lib.hid hb1; have HGL := Lib.hid hg2; have HG1 := Lib.hid hg1
 have s1 : ∀ w : World, (Instr.slice 44 (.slice (some ⟨g, 0, none⟩) n c) (some (.int .i64 (k : Int))) none none).run Tryz.prog w = .ok (.slice (some ⟨g, k, none⟩) (n - k) (c - k)) w := by
  intro w
  have h3 : ¬ c = k := by omega
  have h4 : k ≤ n := by omega
  simp [Instr.slice, Instr.sliceBounds, Instr.sliceBound, go_sem, h3, h4, Addr.add]
  exact fun h => h.symm
 have s2 : ∀ w : World, (Instr.slice 44 (.slice (some ⟨g, 0, none⟩) n c) none (some (.int .i64 (k : Int))) none).run Tryz.prog w = .ok (.slice (some ⟨g, 0, none⟩) k c) w := by
  intro w
  have h2 : ¬ c < k := by omega
  simp [Instr.slice, Instr.sliceBounds, Instr.sliceBound, go_sem, h2, Addr.add]
 clear hbx hcz hb1 hg1 hg2
 go_wp2_with fail
 refine HMI.out.mono ?_
 rintro e w' ⟨rfl, rfl⟩
 go_wp2_with fail
 refine HIX.out.mono ?_
 rintro e w' ⟨rfl, rfl⟩
 go_wp2
 refine wp_region_noPanic ?_
 refine wp_region_held_drew (S := fun w' => True) (by kernel_rfl) (trivial) (fun hHeld => ?_)
 refine rU 0 _ _ ?_
 (try simp only [Act.put]);try simp only [sA,sZ,sS]
 refine rU 1 _ _ ?_
 (try simp only [Act.put]);try simp only [sA,sZ,sS]
 refine rU 2 _ _ ?_
 (try simp only [Act.put]);try simp only [sA,sZ,sS]
 refine rU 3 _ _ ?_
 (try simp only [Act.put]);try simp only [sA,sZ,sS]
 refine rU 4 _ _ ?_
 (try simp only [Act.put]);try simp only [sA,sZ,sS]
 refine rU 5 _ _ ?_
 (try simp only [Act.put]);try simp only [sA,sZ,sS]
 refine reg_call 6 ?_ (by kernel_rfl) ?_ (fun K hK => ?_);rotate_left 1
 ·simp only [gA,gS,gZ]; exact rfl
 obtain ⟨w3, hw3, pz, hb3, hs3⟩ := new_box w1.drew _ rfl [.slice (some ⟨g, k, none⟩) (n - k) (c - k), .slice (some ⟨g, 0, none⟩) k c] 44
 go_simp
 try rw [hw3]
 refine hK.out _ _ (trivial) (fun hHeld => ?_)
 clear hK K
 (try simp only [Act.put]);try simp only [sA,sZ,sS]
 refine reg_call 7 ?_ (by kernel_rfl) ?_ (fun K hK => ?_);rotate_left 1
 ·simp only [gA,gS,gZ]; exact rfl
 have hb13 := ((Below.refl w1.heap.size w1).drew').trans (hb3.mono (Nat.le_refl _))
 have HCO := Lib.hid (concatI_any w1.drew.heap.size 2 (n - k) (c - k) k c ⟨g, k, none⟩ ⟨g, 0, none⟩ (intCells (L.drop k)) (intCells (L.take k)) w3 (by omega) (by have := HN9.out; omega) (by rw [intCells_len, List.length_drop, HN.out]) (by rw [intCells_len, List.length_take, HN.out]; omega) pz (fun j u hj => by have h1 := HC1.out j u hj; rw [addr_add] at h1 ⊢; exact (hb13.cell (p := ⟨g, k + j, none⟩) HGL.out).trans h1) (fun j u hj => by have h1 := HC2.out j u hj; rw [addr_add] at h1 ⊢; exact (hb13.cell (p := ⟨g, 0 + j, none⟩) HGL.out).trans h1) (fun u hu => by rcases List.mem_append.1 hu with h | h <;> (unfold intCells at h; obtain ⟨z, -, rfl⟩ := List.mem_map.1 h; exact ⟨z, rfl⟩)))
 go_simp
 refine HCO.out.mono ?_
 rintro e w4 ⟨g4, c4, rfl, hrow, hb4⟩
 have hb14 := hb13.trans (hb4.mono hb13.size)
 have FIN := Lib.hid (And.intro hrow (And.intro hb4.size (HB1.out.trans (hb14.mono HB1.out.size))))
 have HSZ := Lib.hid hb13.size
 clear hrow hb4 hb14 hb13
 go_wp2_with fail
 refine hK.out _ _ (trivial) (fun hHeld => ?_)
 clear hK K
 (try simp only [Act.put]);try simp only [sA,sZ,sS]
 refine rU 8 _ _ ?_
 (try simp only [Act.put]);try simp only [sA,sZ,sS]
 refine wpAnyH_done (by kernel_rfl) ?_ _
 refine NoPanic.normal ?_
 go_wp2
 go_ret
 have hrow := FIN.out.1
 have hlt := hrow.lt g4 rfl
 have hsz := HSZ.out
 have hb1s := HB1.out.size
 rw [show n - k + k = n by omega, ← intCells_app] at hrow
 have hbx := owns_box hrow.own
 refine ⟨g4, c4, ?_, hbx, by omega, hlt.2, FIN.out.2.2⟩
 rw [show n - k + k = n by omega]; rfl
end Go.Proofs.YtecnnpkpgbbfkaaGreat
/- What one triangle's mesh has; what a range keeps. -/
namespace Go.MagM
open Go.RowKit Go.Shelf
section
variable {a b c : Nat}
theorem one_only9 {y : Nat} {U : TriM} (h : (newM (a : Int) b c)[y]? = some U) (hr : realT U = true) : y = 0 ∧ U = ⟨(a : Int), b, c, 1, 2, 3, false, false, false⟩ := by
  have hl : y < 4 := (List.getElem?_eq_some_iff.1 h).1
  obtain rfl | rfl | rfl | rfl : y = 0 ∨ y = 1 ∨ y = 2 ∨ y = 3 := by omega
  all_goals simp only [newM, List.getElem?_cons_zero, List.getElem?_cons_succ, Option.some.injEq] at h
  · exact ⟨rfl, h.symm⟩
  all_goals
    subst h
    unfold realT at hr
    have := of_decide_eq_true hr
    simp only [] at this
    omega
end
end Go.MagM
/- Going round a point: what MeshArounds' range remembers; marks of ranges that a loop leaves. -/
namespace Go.MagM
open Go.RowKit Go.Shelf
/-- Marks that a loop's ranges have left: their blocks, shut no more than once each. -/
inductive MarksOk (W : World) : List Deferred → Prop
 | nil : MarksOk W []
 | cons {r : Nat} {ds : List Deferred} (h : W.heap[r]? = some (.deferred (some []))) (hn : ∀ d, d ∈ ds → d.target ≠ .collected r) (t : MarksOk W ds) : MarksOk W ({ target := .collected r, args := #[] } :: ds)
theorem MarksOk.keep {W W' : World} {ds : List Deferred} (h : MarksOk W ds) (hb : Below W.heap.size W W') : MarksOk W' ds := by
 induction h with
 | nil => exact .nil
 | cons h hn t ih => exact .cons ((hb.block _ (Array.getElem?_eq_some_iff.1 h).1).trans h) hn ih
theorem MarksOk.old {W : World} {ds : List Deferred} (h : MarksOk W ds) {r : Nat} (hr : W.heap.size ≤ r) : ∀ d, d ∈ ds → d.target ≠ .collected r := by
 induction h with
 | nil => intro d hd; cases hd
 | cons h hn t ih =>
  intro d hd
  rcases List.mem_cons.1 hd with rfl | hd
  ·intro e
   have := (Array.getElem?_eq_some_iff.1 h).1
   simp only [Target.collected.injEq] at e
   omega
  ·exact ih d hd
theorem MarksOk.put {W : World} {ds : List Deferred} {r : Nat} (h : MarksOk W ds) (hn : ∀ d, d ∈ ds → d.target ≠ .collected r) (o : Obj) : MarksOk (W.putObj r o) ds := by
 induction h with
 | nil => exact .nil
 | @cons r2 ds h hn2 t ih =>
  refine .cons ((World.putObj_heap_other (fun e => ?_)).trans h) hn2 (ih fun d hd => hn d (List.mem_cons_of_mem _ hd))
  exact hn _ (List.mem_cons_self ..) (by rw [e])
end Go.MagM
/- Around, for a range over it; what a function leaves whose loop has left marks. -/
namespace Go.MagM
open Go.RowKit Go.Shelf
end Go.MagM
namespace Go.Proofs.YtecnnpkpgbbfkaaGreat
open Go.RowKit Go.MagM Go.Shelf
attribute [local go_sem] Oper.semAt_some
theorem round_stops_at (n : Nat) (hn : 1 ≤ n) (Bb Bv Bm : Nat) (Pb : Nat → Prop) {mb pb pc : Nat} {ta : Option Addr} {tc : Nat} {P : List (Int × Int)} {S : List TriM} (v : Int) (w : World) (hm : MeshR w mb pb pc ta tc P S) (hin : MeshIn Pb mb pb ta) (hBb : w.cell? ⟨Bb, 0, none⟩ = some (.func (.func 17) #[.pointer (some ⟨mb, 0, none⟩)] #[])) (hBv : w.cell? ⟨Bv, 0, none⟩ = some (.int .i64 v)) (hBm : w.cell? ⟨Bm, 0, none⟩ = some (.pointer (some ⟨mb, 0, none⟩))) (hPv : Pb Bv) (hPm : Pb Bm) :
  SeqStopsK Fence.wide n Tryz.prog 126 #[.pointer (some ⟨Bb, 0, none⟩), .pointer (some ⟨Bv, 0, none⟩), .pointer (some ⟨Bm, 0, none⟩)] encR (KeepB Pb) (fun ys : List (RB S) => ys.map (·.1) = walkM S v (atM S v) S.length (atM S v)) (fun pre : List (RB S) => pre.map (·.1) <+: walkM S v (atM S v) S.length (atM S v)) S.length w := fun l J Jx W hW _ _ hY h0 =>
 round1_at n hn l Bb Bv Bm Pb v J Jx hY W (hm.below hW) hin ((hW.cell (p := ⟨Bb, 0, none⟩) (World.block_lt_of_cell? w _ hBb)).trans hBb) ((hW.cell (p := ⟨Bv, 0, none⟩) (World.block_lt_of_cell? w _ hBv)).trans hBv) ((hW.cell (p := ⟨Bm, 0, none⟩) (World.block_lt_of_cell? w _ hBm)).trans hBm) hPv hPm h0
set_option maxHeartbeats 1000000 in
theorem Around_any (mb : Nat) (v : Int) (w : World) :
  Calls Tryz.prog 30 #[.pointer (some ⟨mb, 0, none⟩), .int .i64 v] w fun e w' => e = .returned (.func (.func 126) #[] #[.pointer (some ⟨w.heap.size + 1 + 1, 0, none⟩), .pointer (some ⟨w.heap.size + 1, 0, none⟩), .pointer (some ⟨w.heap.size, 0, none⟩)]) ∧ w' = ((w.alloc (.cells #[.pointer (some ⟨mb, 0, none⟩)] 25)).alloc (.cells #[.int .i64 v] 3)).alloc (.cells #[.func (.func 17) #[.pointer (some ⟨mb, 0, none⟩)] #[]] 34) := by
 go_enter Tryz.func30, Tryz.ntmps30
 go_wp2_with (go_at_call 75; refine (round_any _ _ v mb 17 _ rfl rfl).mono ?_; rintro e w' ⟨rfl, rfl⟩)
 go_ret
 exact ⟨rfl, rfl⟩
end Go.Proofs.YtecnnpkpgbbfkaaGreat
/- grow's having: some triangle. -/
namespace Go.MagM
open Go.RowKit
/-- Some number lies in the box. -/
def HavX (rb : Nat) (ty : TypeId) (W : World) : Prop := ∃ t : Int, Boxed W rb ty (.int .i64 t)
theorem havX_own {S : List TriM} (rb : Nat) (ty : TypeId) (B : Nat) : OwnFrom B (fun (_ : List (RB S)) W => HavX rb ty W) := by
 intro s A B' row hs hg hr
 obtain ⟨t, hb⟩ := hs
 exact ⟨t, (Own.from (boxed_own rb ty (fun _ : List (RB S) => Value.int .i64 t)) B) s A B' row hb hg hr⟩
end Go.MagM
namespace Go.Proofs.YtecnnpkpgbbfkaaGreat
open Go.RowKit Go.MagM Go.Shelf
attribute [local go_sem] Oper.semAt_some
theorem keepsOthersG {W W' : World} (h : Below W.heap.size W W') : KeepsOthers W W' := ⟨h.size, fun k _ hk _ => (h.block k (Array.getElem?_eq_some_iff.1 hk).1).trans hk⟩
set_option maxRecDepth 100000 in
set_option maxHeartbeats 8000000 in
theorem having_any {mb pb pc : Nat} {ta : Option Addr} {tc : Nat} {P : List (Int × Int)} {S : List TriM} (v : Int) (w : World) (h : MeshR w mb pb pc ta tc P S) (hin : MeshIn (fun b => b < w.heap.size) mb pb ta) :
  Calls Tryz.prog 45 #[.pointer (some ⟨mb, 0, none⟩), .int .i64 v] w fun e w' => ∃ t : Int, e = .returned (.int .i64 t) ∧ Below w.heap.size w w' := by
 obtain ⟨w1, hw1, pm, hb1, hs1⟩ := new_box w _ rfl [.pointer (some ⟨mb, 0, none⟩)] 25
 obtain ⟨w2, hw2, pp, hb2, hs2⟩ := new_box w1 _ rfl [.int .i64 0] 3
 obtain ⟨b0, hb0⟩ : ∃ x, w.heap.size = x := ⟨_, rfl⟩
 obtain ⟨rb, hrb⟩ : ∃ x, w1.heap.size = x := ⟨_, rfl⟩
 have bx2 : Boxed w2 rb 3 (.int .i64 0) := by rw [← hw2, ← hrb]; exact Boxed.new w1 _ _
 have hB2 : Below w.heap.size w w2 := hb1.trans (hb2.mono hb1.size)
 have bm2 : Boxed w2 b0 25 (.pointer (some ⟨mb, 0, none⟩)) := by
  have e1 : Boxed w1 b0 25 (.pointer (some ⟨mb, 0, none⟩)) := by rw [← hw1, ← hb0]; exact Boxed.new w _ _
  exact (hb2.block b0 (by omega)).trans e1
 have hm2 := h.below hB2
 have c0 := bm2.cell
 have hz1 : rb = b0 + 1 := by omega
 have hz2 : w2.heap.size = rb + 1 := by omega
 have HB2 := Lib.hid hB2; have BX2 := Lib.hid bx2; have BM2 := Lib.hid bm2; have HM2 := Lib.hid hm2; have HIN := Lib.hid hin; have HZ1 := Lib.hid hz1; have HZ2 := Lib.hid hz2; have HB0 := Lib.hid hb0
 clear h hin pm pp hb1 hb2 hB2 bx2 bm2 hm2 hs1 hs2 hz1 hz2
 refine (callsIn_wide (n := 20)).1 (callsIn_of_wp_marks (F := Fence.wide) (n := 20) Tryz.func45 rfl trivial ?_ rfl)
 simp only [Tryz.ntmps45, List.size_toArray, List.length_cons, List.length_nil, Nat.reduceAdd, Nat.reduceSub, Array.replicate_succ, Array.replicate_zero, List.push_toArray, List.append_toArray, List.nil_append, List.cons_append]
 rw [wpIn_wide]
 go_wp2_with fail
 clear hw1 hw2 hb0 hrb
 refine (Around_any mb v w2).mono ?_
 rintro e w3 ⟨rfl, hw3⟩
 obtain ⟨b, hb⟩ : ∃ x, w2.heap.size = x := ⟨_, rfl⟩
 rw [hb]
 have hW3 : w3.heap.size = b + 3 := by rw [hw3]; simp; omega
 have hb23 : Below w2.heap.size w2 w3 := by rw [hw3]; exact (((Below.refl _ _).alloc (Nat.le_refl _) _).alloc (by simp) _).alloc (by simp; omega) _
 have q0 : Boxed w3 b 25 (.pointer (some ⟨mb, 0, none⟩)) := by
  rw [hw3, ← hb]; exact (((Boxed.new w2 _ _).alloc _).alloc _)
 have q1 : Boxed w3 (b + 1) 3 (.int .i64 v) := by
  rw [hw3]
  have : Boxed ((w2.alloc (.cells #[.pointer (some ⟨mb, 0, none⟩)] 25)).alloc (.cells #[.int .i64 v] 3)) (w2.alloc (.cells #[.pointer (some ⟨mb, 0, none⟩)] 25)).heap.size 3 (.int .i64 v) := Boxed.new _ _ _
  rw [show (w2.alloc (.cells #[.pointer (some ⟨mb, 0, none⟩)] 25)).heap.size = b + 1 by simp; omega] at this
  exact this.alloc _
 have q2 : Boxed w3 (b + 1 + 1) 34 (.func (.func 17) #[.pointer (some ⟨mb, 0, none⟩)] #[]) := by
  rw [hw3]
  have : Boxed (((w2.alloc (.cells #[.pointer (some ⟨mb, 0, none⟩)] 25)).alloc (.cells #[.int .i64 v] 3)).alloc (.cells #[.func (.func 17) #[.pointer (some ⟨mb, 0, none⟩)] #[]] 34)) ((w2.alloc (.cells #[.pointer (some ⟨mb, 0, none⟩)] 25)).alloc (.cells #[.int .i64 v] 3)).heap.size 34 (.func (.func 17) #[.pointer (some ⟨mb, 0, none⟩)] #[]) := Boxed.new _ _ _
  rw [show ((w2.alloc (.cells #[.pointer (some ⟨mb, 0, none⟩)] 25)).alloc (.cells #[.int .i64 v] 3)).heap.size = b + 1 + 1 by simp; omega] at this
  exact this
 have hm3 := HM2.out.below hb23
 have hB3 := HB2.out.trans (hb23.mono HB2.out.size)
 have hz1 := HZ1.out; have hz2 := HZ2.out
 have bx3 : Boxed w3 rb 3 (.int .i64 0) := (hb23.block rb (by omega)).trans BX2.out
 have bm3 : Boxed w3 b0 25 (.pointer (some ⟨mb, 0, none⟩)) := (hb23.block b0 (by omega)).trans BM2.out
 clear hw3 c0
 have hw0 : w.heap.size ≤ b0 ∧ b0 ≤ w.heap.size := by have := HB0.out; omega
 have hl1 : b0 < rb := by omega
 have hl2 : rb < b := by omega
 have hl3 : b + 3 ≤ w3.heap.size ∧ w3.heap.size ≤ b + 3 := by omega
 clear hz1 hz2 hW3 hb
 have hin3 : MeshIn (fun k => k ≠ rb ∧ k < b + 3) mb pb ta := ⟨by have := HIN.out.m; omega, by have := HIN.out.p; omega, fun k hk => by have := HIN.out.t k hk; omega⟩
 have HM3 := Lib.hid hm3; have HI3 := Lib.hid hin3
 go_wp2
 rw [← wpIn_wide (n := 20)]
 refine wpIn_rangeFunc_ownG rfl (by omega) (gf := 126) (lb := #[.pointer (some ⟨b + 1 + 1, 0, none⟩), .pointer (some ⟨b + 1, 0, none⟩), .pointer (some ⟨b, 0, none⟩)]) rfl trivial (enters_of Tryz.func126 (by kernel_rfl) rfl)
  (round_stops_at 19 (by omega) (b + 1 + 1) (b + 1) b (fun k => k ≠ rb ∧ k < b + 3) v w3 hm3 hin3 q2.cell q1.cell q0.cell (by omega) (by omega)) (fun h k => KeepB.trans h k) ?kb (Below.refl _ _) (fun _ => rfl)
  (fun (_ : List (RB S)) W => Boxed W rb 3 (.int .i64 0) ∧ KeepB (fun k => k ≠ rb ∧ k < b + 3) w3 W ∧ Below w.heap.size w W)
  (fun c (_ : List (RB S)) W => (c = .ret ∧ HavX rb 3 W) ∧ Below w.heap.size w W)
  (OwnFrom.and (Own.from (boxed_own rb 3 (fun _ : List (RB S) => Value.int .i64 0)) w3.heap.size) (OwnFrom.and (keepB_own (fun k hk => by omega)) (ownFrom_below (Nat.le_refl _) (by omega))))
  (fun c => OwnFrom.and (fun s A B row hs hg hr => ⟨hs.1, havX_own _ _ _ s A B row hs.2 hg hr⟩) (ownFrom_below (Nat.le_refl _) (by omega)))
  ⟨bx3, KeepB.refl _ _, hB3⟩
  (fun x => { tmps := #[.pointer (some ⟨mb, 0, none⟩), .int .i64 v, .pointer (some ⟨b0, 0, none⟩), undef, .pointer (some ⟨rb, 0, none⟩), .int .i64 (x.1.1 : Int), .pointer (some ⟨mb, 0, none⟩), .int .i64 v, .func (.func 126) #[] #[.pointer (some ⟨b + 1 + 1, 0, none⟩), .pointer (some ⟨b + 1, 0, none⟩), .pointer (some ⟨b, 0, none⟩)], .int .i64 (x.1.1 : Int), .int .i64 (x.1.2 : Int), undef, undef, undef, undef], defers := [] }) ?assign ?body ?done ?stop
 case kb =>
  intro W l o o' hl h _ _ k hk
  exact World.putObj_heap_other (fun e => by omega)
 case assign =>
  intro l x W K hK
  dsimp only [encR]
  gi_wp2
  exact hK
 case body =>
  rintro l pre ⟨⟨m, k⟩, hm, hk⟩ W ⟨hbx, hKB, hB⟩ _
  simp only [] at hm hk
  have hmW := HM3.out.keep HI3.out hKB
  have hbm : Boxed W b0 25 (.pointer (some ⟨mb, 0, none⟩)) := (hKB b0 (by omega)).trans bm3
  have cm := hbm.cell
  have hre := Real_any (m : Int) W hmW
  obtain ⟨r, hr⟩ : ∃ r, realM S (m : Int) = r := ⟨_, rfl⟩
  rw [hr] at hre
  have HRE := Lib.hid hre
  have HBX := Lib.hid hbx; have HKB := Lib.hid hKB; have HBB := Lib.hid hB
  clear hre hr hmW hbx hKB hB
  gi_wp2_with fail
  refine ⟨trivial, (CallsIn.inRound l (callsIn_wide.2 HRE.out)).mono ?_⟩
  rintro e W1 ⟨rfl, q, rfl⟩
  have hbx1 : Boxed (W.drewN q) rb 3 (.int .i64 0) := HBX.out
  have hc := hbx1.cell; have hf := hbx1.frozen
  have hb1 : Below w.heap.size w (W.drewN q) := HBB.out.trans ((Drew.below ⟨q, rfl⟩ : Below W.heap.size W (W.drewN q)).mono HBB.out.size)
  have hd1 : Below W.heap.size W (W.drewN q) := Drew.below ⟨q, rfl⟩
  have hkb1 : KeepB (fun k => k ≠ rb ∧ k < b + 3) W (W.drewN q) := fun _ _ => rfl
  cases r with
  | true =>
   gi_wp2
   exact ⟨((keepsOthersG hd1).trans (KeepsOthers.setCell _ _ _)).from _, ⟨rfl, ⟨_, hbx1.set _⟩⟩, hb1.setCell (p := ⟨rb, 0, none⟩) (by simp only []; omega) _⟩
  | false =>
   gi_wp2
   exact ⟨(keepsOthersG hd1).from _, hkb1, hbx1, HKB.out.trans hkb1, hb1⟩
 case done =>
  rintro D xs W hD hS ⟨hbx, hKB, hB⟩ hK
  have hc := hbx.cell; have hf := hbx.frozen
  gi_wp2
  go_wp2
  have hK' := (KeepsOthers.setCell W ⟨rb, 0, none⟩ (.int .i64 0)).same D _ hK rfl
  have hb' := hB.setCell (p := ⟨rb, 0, none⟩) (by simp only []; omega) (.int .i64 0)
  have hbx' := hbx.set (.int .i64 0)
  refine ⟨by simp, .inl ⟨_, _, rfl, run_takeDeferred hK', ?_⟩⟩
  have hc5 := cell_kept hbx'.cell (grownBy_putObj' _ D (.deferred none)) (fun r e => by cases e; exact ⟨_, hK', rfl⟩)
  refine ⟨.int .i64 0, ?_, 0, rfl, hb'.trans (belowK_b (w := w) (Nat.le_refl _) _ D _ _ (by omega) hK' rfl rfl)⟩
  simp [results, Tryz.results45, go_sem, hc5]
 case stop =>
  rintro D c pre W hD hS ⟨⟨rfl, ⟨x, hbx⟩⟩, hB⟩ hK
  gi_wp2
  refine ⟨by simp, .inl ⟨_, _, rfl, run_takeDeferred hK, ?_⟩⟩
  have hc5 := cell_kept hbx.cell (grownBy_putObj' _ D (.deferred none)) (fun r e => by cases e; exact ⟨_, hK, rfl⟩)
  refine ⟨.int .i64 x, ?_, x, rfl, hB.trans (belowK_b (w := w) (Nat.le_refl _) _ D _ _ (by omega) hK rfl rfl)⟩
  simp [results, Tryz.results45, go_sem, hc5]
end Go.Proofs.YtecnnpkpgbbfkaaGreat
/- The statements' grids: where they lie, where a walk begins. -/
namespace Go.MagM
open Go.RowKit
theorem begin_at {S : List TriM} {T : TriM} (h0 : S[0]? = some T) (hr : realT T = true) (fr : Int) : ∃ (t0 : Nat) (T0 : TriM), beginM S fr = (t0 : Int) ∧ S[t0]? = some T0 ∧ realT T0 = true := by
 unfold beginM
 by_cases h : realM S fr = true
 ·obtain ⟨T0, hg, hr0⟩ := realM_some h
  obtain ⟨h1, -, h3⟩ := getT_some hg
  exact ⟨fr.toNat, T0, by rw [if_pos h]; omega, h3, hr0⟩
 ·refine ⟨0, T, ?_, h0, hr⟩
  rw [if_neg h]
  have h1 : realsK S 1 = [(0, T)] := by rw [realsK_yes h0 hr]; rfl
  obtain ⟨rest, he⟩ := realsK_pre S S.length 1 (by have := (List.getElem?_eq_some_iff.1 h0).1; omega)
  rw [← he, h1]
  rfl
theorem MeshR.in_ {w : World} {mb pb pc : Nat} {ta : Option Addr} {tc : Nat} {P : List (Int × Int)} {S : List TriM} (h : MeshR w mb pb pc ta tc P S) (hP : 0 < P.length) (hS : 0 < S.length) : MeshIn (fun b => b < w.heap.size) mb pb ta := by
 refine ⟨World.block_lt_of_cell? w _ (h.box.c 0 _ rfl), ?_, fun b hb => ?_⟩
 ·obtain ⟨⟨x, y⟩, hp⟩ : ∃ q, P[0]? = some q := ⟨_, List.getElem?_eq_getElem hP⟩
  exact World.block_lt_of_cell? w _ (h.pts 0 x y hp).1
 ·obtain ⟨T, hT⟩ : ∃ T, S[0]? = some T := ⟨_, List.getElem?_eq_getElem hS⟩
  obtain ⟨tb, e, hl, -⟩ := h.tris.get hT
  rw [hb] at e
  cases e
  exact hl
end Go.MagM
namespace Go.Proofs.YtecnnpkpgbbfkaaGreat
open Go.RowKit Go.MagM
end Go.Proofs.YtecnnpkpgbbfkaaGreat
/- grow's Build of four points, of which the fourth lies outside of the triangle of the first three. Written by tools/grow5.py. -/
namespace Go.Proofs.YtecnnpkpgbbfkaaGreat
open Go.RowKit Go.MagM
/-- What Dig leaves, for put. -/
theorem dig_put {S : List TriM} {ts : List Int} {W w' : World} {e : Ending} {cb : Bool} {gd c : Nat} {rv : Value} (Good : List Int → Prop) (hg : Good ts) (hne : rimR S ts ≠ []) (he : e = .returned (.agg #[.slice (some ⟨gd, 0, none⟩) ts.length c, rv, .bool cb]))
  (h1 : RowN w' W.heap.size 3 1 (.slice (some ⟨gd, 0, none⟩) ts.length c) ts.length (intCells (sortL ts))) (h2 : RowN w' W.heap.size 211 5 rv (rimR S ts).length (sideCells (rimR S ts))) (hb : Below W.heap.size W w') :
  ∃ (gd c rb rc : Nat) (ts : List Int) (cb : Bool), e = .returned (.agg #[.slice (some ⟨gd, 0, none⟩) ts.length c, .slice (some ⟨rb, 0, none⟩) (rimR S ts).length rc, .bool cb]) ∧ Good ts ∧ IntsAt w' gd (sortL ts) ∧ SidesAt w' rb (rimR S ts) ∧ (W.heap.size ≤ gd ∧ gd < w'.heap.size ∧ W.heap.size ≤ rb ∧ rb < w'.heap.size) ∧ Below W.heap.size W w' := by
 obtain ⟨rb, rc, rfl⟩ : ∃ rb rc, rv = .slice (some ⟨rb, 0, none⟩) (rimR S ts).length rc := by
  rcases h2.2 with ⟨-, h⟩ | ⟨g, cap, cur, h, -⟩
  ·exact absurd (List.eq_nil_of_length_eq_zero h) hne
  ·exact ⟨g, cap, h⟩
 refine ⟨gd, c, rb, rc, ts, cb, he, hg, fun j z hj => h1.cells (g := gd) rfl j _ (intCells_get hj), fun i s hs j u hj => ?_, ⟨(h1.lt gd rfl).1, (h1.lt gd rfl).2, (h2.lt rb rfl).1, (h2.lt rb rfl).2⟩, hb⟩
 have hj5 : j < 5 := by have := (List.getElem?_eq_some_iff.1 hj).1; exact this
 exact h2.cells (g := rb) rfl _ u ((sideCells_get _ i j s hs hj5).trans hj)
theorem one_begin {a b c : Nat} (fr : Int) : beginM (newM (a : Int) b c) fr = ((0 : Nat) : Int) := by
 obtain ⟨t0, T0, h1, h2, h3⟩ := begin_at (S := newM (a : Int) b c) (T := ⟨(a : Int), b, c, 1, 2, 3, false, false, false⟩) rfl (by unfold realT; exact decide_eq_true (by simp only []; omega)) fr
 rw [h1, (one_only9 h2 h3).1]
theorem single_of {ts : List Int} {x : Int} (h : ts.Nodup) (hm : ∀ y, y ∈ ts ↔ y = x) : ts = [x] := by
 cases ts with
 | nil => exact absurd ((hm x).2 rfl) (by simp)
 | cons a l =>
  have ha : a = x := (hm a).1 (by simp)
  cases l with
  | nil => rw [ha]
  | cons b l =>
   have hb : b = x := (hm b).1 (by simp)
   rw [ha, hb] at h
   simp at h
theorem sortL_one (x : Int) : sortL [x] = [x] := List.perm_singleton.1 (sortL_perm [x])
set_option maxRecDepth 100000 in
set_option maxHeartbeats 16000000 in
theorem Build4_any (P : List (Int × Int)) (g : Nat) (cnt p0 p1 : Int) (S4 : List TriM) (sb sc : Nat) (w : World) (hP : InPs P) (hl : P.length = 4) (hc : PtsIn w sb P)
  (hbase : ∀ ok s t, BaseIs P ok s t → ok = true ∧ s = 1 ∧ t = 2) (hturn : turnM P ((0 : Nat) : Int) ((1 : Nat) : Int) ((2 : Nat) : Int) = 1) (h3 : P[3]? = some (p0, p1)) (hg : 1 ≤ g ∧ g < 4)
  (hfind : findF P (newM ((0 : Nat) : Int) ((1 : Nat) : Int) ((2 : Nat) : Int)) ⟨((0 : Nat) : Int), ((1 : Nat) : Int), ((2 : Nat) : Int), 1, 2, 3, false, false, false⟩ (p0, p1) 4 0 ((0 : Nat) : Int) = ((3, (g : Int), 0, 0), cnt))
  (hconf : ∀ k : Nat, k < 4 → k ≠ g → confT P (newM ((0 : Nat) : Int) ((1 : Nat) : Int) ((2 : Nat) : Int)) (p0, p1) (k : Int) = false)
  (hput : putM (newM ((0 : Nat) : Int) ((1 : Nat) : Int) ((2 : Nat) : Int)) ((3 : Nat) : Int) [] [(g : Int)] = S4) (hrim : rimR (newM ((0 : Nat) : Int) ((1 : Nat) : Int) ((2 : Nat) : Int)) [(g : Int)] ≠ [])
  (hok : ∀ s, s ∈ rimR (newM ((0 : Nat) : Int) ((1 : Nat) : Int) ((2 : Nat) : Int)) [(g : Int)] → ∃ u i : Nat, s.u = (u : Int) ∧ (u : Int) ∉ [(g : Int)] ∧ u < 4 ∧ s.i = (i : Int) ∧ i < 3) :
  Calls Tryz.prog 14 #[.slice (some ⟨sb, 0, none⟩) 4 sc] w fun e w' => ∃ mb pb pc tv, e = .returned (.tuple #[.pointer (some ⟨mb, 0, none⟩), .bool true]) ∧ MeshO 33 41 w' w.heap.size mb pb pc tv P (S4) ∧ Below w.heap.size w w' := by
 have hP0 : P ≠ [] := by intro e; rw [e] at hl; cases hl
 obtain ⟨S0, hS0⟩ : ∃ S0, newM ((0 : Nat) : Int) ((1 : Nat) : Int) ((2 : Nat) : Int) = S0 := ⟨_, rfl⟩
 have hlook : LookIn P S0 := by
  intro t T hT
  rw [← hS0] at hT
  rcases newM_get _ _ _ t T hT with ⟨rfl, rfl⟩ | ⟨rfl, rfl⟩ | ⟨rfl, rfl⟩ | ⟨rfl, rfl⟩
  ·refine ⟨fun _ i hi => ?_, fun k hk => ?_⟩
   ·obtain rfl | rfl | rfl : i = 0 ∨ i = 1 ∨ i = 2 := by omega
    all_goals (unfold InV; rw [hl]; decide)
   ·exfalso
    have : placeT (⟨((0 : Nat) : Int), ((1 : Nat) : Int), ((2 : Nat) : Int), 1, 2, 3, false, false, false⟩ : TriM) (-1) = -1 := by decide
    omega
  all_goals
   refine ⟨fun hr => ?_, fun k hk => ?_⟩
   ·exact absurd hr (by decide)
   ·have hk2 : k = 2 := by
     simp [placeT] at hk
     omega
    subst hk2
    unfold InV; rw [hl]; decide
 have hnx : Nexts S0 := by
  intro t T hT i hi
  rw [← hS0] at hT ⊢
  rcases newM_get _ _ _ t T hT with ⟨rfl, rfl⟩ | ⟨rfl, rfl⟩ | ⟨rfl, rfl⟩ | ⟨rfl, rfl⟩
  all_goals
   obtain rfl | rfl | rfl : i = 0 ∨ i = 1 ∨ i = 2 := by omega
   all_goals first | exact ⟨0, rfl, by decide⟩ | exact ⟨1, rfl, by decide⟩ | exact ⟨2, rfl, by decide⟩ | exact ⟨3, rfl, by decide⟩
 have hcor : Cornered P S0 := by
  intro t T hT
  have hlk := hlook t T hT
  rw [← hS0] at hT
  rcases newM_get _ _ _ t T hT with ⟨rfl, rfl⟩ | ⟨rfl, rfl⟩ | ⟨rfl, rfl⟩ | ⟨rfl, rfl⟩
  ·have hv := hlk.1 (by decide)
   rw [cors_real (by decide) hv]; simp
  all_goals
   have hv := hlk.2 2 (by decide)
   rw [cors_ghost (j := 2) (by omega) (by decide) hv.1 hv.2 rfl]; simp
 have hsm : SmallV S0 := by
  intro t T hT k
  rw [← hS0] at hT
  rcases newM_get _ _ _ t T hT with ⟨rfl, rfl⟩ | ⟨rfl, rfl⟩ | ⟨rfl, rfl⟩ | ⟨rfl, rfl⟩
  all_goals
   match k with
   | 0 => decide
   | 1 => decide
   | k + 2 => exact (show -1000000 ≤ (TriM.v _ 2) ∧ (TriM.v _ 2) ≤ 1000000 by decide)
 have hlen0 : S0.length = 4 := by rw [← hS0]; rfl
 have hlive : ∀ t, t < S0.length → Alive S0 t := by
  intro t ht
  obtain ⟨T, hT⟩ : ∃ T, S0[t]? = some T := ⟨_, List.getElem?_eq_getElem ht⟩
  refine ⟨T, hT, ?_⟩
  rw [← hS0] at hT
  rcases newM_get _ _ _ t T hT with ⟨rfl, rfl⟩ | ⟨rfl, rfl⟩ | ⟨rfl, rfl⟩ | ⟨rfl, rfl⟩
  all_goals decide
 have hT0 : S0[0]? = some ⟨((0 : Nat) : Int), ((1 : Nat) : Int), ((2 : Nat) : Int), 1, 2, 3, false, false, false⟩ := by rw [← hS0]; rfl
 have hbeg : ∀ fr, beginM S0 fr = ((0 : Nat) : Int) := fun fr => by rw [← hS0]; exact one_begin fr
 rw [hS0] at hfind hconf hput hrim hok
 obtain ⟨Tg, hTg⟩ : ∃ T, S0[g]? = some T := ⟨_, List.getElem?_eq_getElem (by omega)⟩
 have hIS : InS S0 [(g : Int)] := ⟨by simp, fun z hz => ⟨g, by simpa using hz, by omega⟩⟩
 have hreach : ∀ x, Reach S0 (confT P S0 (p0, p1)) [(g : Int)] x → x = (g : Int) := by
  intro x hx
  have hcl : Closed S0 (confT P S0 (p0, p1)) [(g : Int)] := by
   intro t i T ht hT hi _ hcf
   obtain ⟨u, hu, hul⟩ := hnx t T hT i hi
   rw [hu] at hcf ⊢
   by_cases e : u = g
   ·rw [e]; simp
   ·rw [hconf u (by omega) e] at hcf; cases hcf
  simpa using hcl.reach (fun t ht => ht) hx
 have hpt : InP p0 ∧ InP p1 := hP _ (List.mem_of_getElem? h3)
 -- Dig, Find, put, wherever the mesh lies
 have hdig : ∀ (mb pb pc : Nat) (ta : Option Addr) (tc : Nat) (W : World), MeshR W mb pb pc ta tc P S0 → Calls Tryz.prog 115 #[.pointer (some ⟨mb, 0, none⟩), .agg #[.int .i64 p0, .int .i64 p1], .agg #[.int .i64 3, .int .i64 (g : Int), .int .i64 0, .int .i64 0]] W fun e w' => ∃ (gd c rb rc : Nat) (ts : List Int) (cb : Bool), e = .returned (.agg #[.slice (some ⟨gd, 0, none⟩) ts.length c, .slice (some ⟨rb, 0, none⟩) (rimR S0 ts).length rc, .bool cb]) ∧ ts = [(g : Int)] ∧ IntsAt w' gd (sortL ts) ∧ SidesAt w' rb (rimR S0 ts) ∧ (W.heap.size ≤ gd ∧ gd < w'.heap.size ∧ W.heap.size ≤ rb ∧ rb < w'.heap.size) ∧ Below W.heap.size W w' := by
  intro mb pb pc ta tc W hm
  refine (cvDig_any [(g : Int)] 3 (g : Int) 0 0 p0 p1 W hm hP hpt hnx hcor (by omega) hsm hIS (by simp) (fun V hV => ?_)).mono ?_
  ·have := cvBegin_off g Tg 3 0 0 V (hm.below hV) hTg (by decide)
   have e : takeM P Tg (g : Int) [] = [(g : Int)] := by unfold takeM; rw [if_pos ⟨hcor g Tg hTg, by simp⟩]; rfl
   rw [e] at this; exact this
  ·rintro e w' ⟨gd, c, rv, ts, he, hI, hts, h1, h2, hb⟩
   have e1 : ts = [(g : Int)] := single_of hI.once (fun y => ⟨fun hy => hreach y ((hts y).1 hy), fun hy => (hts y).2 (.base (by rw [hy]; simp))⟩)
   exact dig_put (fun ts => ts = [(g : Int)]) e1 (by rw [e1]; exact hrim) he h1 h2 hb
 have hPUT : ∀ (lo mb pb pc : Nat) (tv : Value) (W : World), MeshO 33 41 W lo mb pb pc tv P (S0) → Calls Tryz.prog 68 #[.pointer (some ⟨mb, 0, none⟩), .int .i64 ((3 : Nat) : Int), .agg #[.int .i64 3, .int .i64 (g : Int), .int .i64 0, .int .i64 0]] W fun e w' => e = .returned (.tuple #[]) ∧ ∃ tv', MeshO 33 41 w' lo mb pb pc tv' P (S4) ∧ Mut W w' mb tv tv' := by
  intro lo mb pb pc tv W hm
  refine (put_any 3 p0 p1 3 (g : Int) 0 0 [] (fun ts => ts = [(g : Int)]) W hm h3 hlive (by omega) (fun ts e => by subst e; rw [hlen0]; exact ⟨hIS, hrim, hok⟩) (fun V hV => ?_) (fun V hV => ?_)).mono ?_
  ·exact (faultAt_off _ 3 _ _ _ (by decide) V).mono fun e w' ⟨h1, h2⟩ => ⟨_, h1, .inl ⟨rfl, rfl⟩, h2⟩
  ·obtain ⟨ta, tc, -, hr⟩ := (hm.below hV).read
   exact hdig mb pb pc ta tc V hr
  ·rintro e w' ⟨ts, tv', he, hts, h1, h2⟩
   subst hts
   rw [hput] at h1
   exact ⟨he, tv', h1, h2⟩
 have hFD : ∀ (mb pb pc : Nat) (ta : Option Addr) (tc : Nat) (fr : Int) (W : World), MeshR W mb pb pc ta tc P S0 → MeshIn (fun b => b < W.heap.size) mb pb ta → Calls Tryz.prog 67 #[.pointer (some ⟨mb, 0, none⟩), .agg #[.int .i64 p0, .int .i64 p1], .int .i64 fr, .int .i64 ((S0.length : Nat) : Int)] W fun e w' => e = .returned (.tuple #[.agg #[.int .i64 3, .int .i64 (g : Int), .int .i64 0, .int .i64 0], .int .i64 cnt]) ∧ Below W.heap.size W w' := by
  intro mb pb pc ta tc fr W hm hin
  have := WFind_any 0 ⟨((0 : Nat) : Int), ((1 : Nat) : Int), ((2 : Nat) : Int), 1, 2, 3, false, false, false⟩ (p0, p1) fr ((S0.length : Nat) : Int) W hm hin hP hpt hlook (hbeg fr) hT0 (by decide)
  rw [hlen0] at this ⊢
  rw [show (min ((4 : Nat) : Int) ((4 : Nat) : Int)).toNat = 4 by decide, hfind] at this
  exact this
 have HB := Lib.hid (Base_any sb 4 sc P w hl (by omega) (by omega) hP hc)
 have HNEW := Lib.hid (fun W (hW : PtsIn W sb P) => New_yes (some ⟨sb, 0, none⟩) sb 4 sc P W hl (by omega) (by omega) hP rfl (fun j u hj => by
  rw [Nat.zero_add]
  obtain ⟨q, r, hr, rfl⟩ : ∃ q r, r < 2 ∧ j = q * 2 + r := ⟨j / 2, j % 2, Nat.mod_lt _ (by omega), by omega⟩
  have hq : q < P.length := by have := (List.getElem?_eq_some_iff.1 hj).1; rw [ptsCells_len] at this; omega
  obtain ⟨⟨x, y⟩, hxy⟩ : ∃ p, P[q]? = some p := ⟨_, List.getElem?_eq_getElem hq⟩
  obtain ⟨g1, g2⟩ := ptsCells_get P q x y hxy
  obtain ⟨g3, g4⟩ := hW q x y hxy
  obtain rfl | rfl : r = 0 ∨ r = 1 := by omega
  ·rw [Nat.add_zero] at hj ⊢
   rw [g1] at hj; cases hj; exact g3
  ·rw [g2] at hj; cases hj; exact g4) 0 1 2 hturn)
 have HBA := Lib.hid hbase; have HC := Lib.hid hc; have H3 := Lib.hid h3; have HPU := Lib.hid hPUT; have HFN := Lib.hid hFD; have HS0 := Lib.hid hS0; have HL4 := Lib.hid hlen0; have HL := Lib.hid hl
 clear hdig hPUT hFD hpt hreach hIS hTg hbeg hT0 hlive hsm hcor hnx hlook hfind hconf hput hrim hok hbase hturn h3 hc hP hP0 hS0 hlen0 hl
 go_enter Tryz.func14, Tryz.ntmps14
 go_wp2_with fail
 refine HB.out.mono ?_
 rintro e w1 ⟨ok, s, t, rfl, hba, hb1⟩
 obtain ⟨rfl, rfl, rfl⟩ := HBA.out ok s t hba
 obtain ⟨bb, hbb⟩ : ∃ x, w1.heap.size = x := ⟨_, rfl⟩
 obtain ⟨w2, hw2, pb2, hb2, hs2⟩ := new_box w1 _ rfl [.int .i64 0, .int .i64 1, .int .i64 2] 38
 rw [hbb] at pb2
 have hB2 : Below w.heap.size w w2 := hb1.trans (hb2.mono hb1.size)
 have HN := Lib.hid (show Calls Tryz.prog 43 #[.slice (some ⟨sb, 0, none⟩) 4 sc, .int .i64 0, .int .i64 1, .int .i64 2] w2 fun e w' => ∃ mb pb pc tv, e = .returned (.tuple #[.pointer (some ⟨mb, 0, none⟩), .bool true]) ∧ MeshO 33 41 w' w2.heap.size mb pb pc tv P (newM ((0 : Nat) : Int) ((1 : Nat) : Int) ((2 : Nat) : Int)) ∧ w2.heap.size ≤ pb ∧ Below w2.heap.size w2 w' from HNEW.out w2 (HC.out.below hB2))
 have z0 := pb2.c 0 _ rfl; have z1 := pb2.c 1 _ rfl; have z2 := pb2.c 2 _ rfl
 have PB2 := Lib.hid pb2; have HB2 := Lib.hid hB2
 have hlb : w.heap.size ≤ bb := by rw [← hbb]; exact hb1.size
 have HLB := Lib.hid hlb
 clear hba hb1 pb2 hb2 hs2 hB2 hlb
 go_wp2_with fail
 clear hbb hw2
 refine HN.out.mono ?_
 rintro e w3 ⟨mb, pb, pc, tv, rfl, hm, hpb, hb3⟩
 rw [HS0.out] at hm
 have pb3 := PB2.out.below hb3
 have hB3 : Below w.heap.size w w3 := HB2.out.trans (hb3.mono HB2.out.size)
 have hio : IntsAt w3 bb [0, 1, 2] := fun j z hj => by
  match j, hj with
  | 0, hj => cases hj; exact pb3.c 0 _ rfl
  | 1, hj => cases hj; exact pb3.c 1 _ rfl
  | 2, hj => cases hj; exact pb3.c 2 _ rfl
  | _ + 3, hj => cases hj
 have HCO := Lib.hid (fun x => containsI_any (.slice (some ⟨bb, 0, none⟩) 3 3) [0, 1, 2] x w3 (.inr ⟨bb, 3, rfl, hio, by decide⟩))
 have HM := Lib.hid hm; have HB3 := Lib.hid hB3
 have y0 := pb3.c 0 _ rfl
 have hlo : w.heap.size ≤ w2.heap.size := HB2.out.size
 have HLO := Lib.hid hlo
 have HPB := Lib.hid hpb
 clear z0 z1 z2 hm hpb hb3 hB3 pb3 hio hlo
 go_wp2
 clear y0
 go_loopw [7, 8, 31] (fun lv _ iv wr => ∃ k : Nat, iv = .int .i64 (k : Int) ∧ ((k ≤ 3 ∧ lv = .int .i64 0 ∧ wr = w3) ∨ (k = 4 ∧ ∃ tv', MeshO 33 41 wr w2.heap.size mb pb pc tv' P (S4) ∧ Below w.heap.size w wr))) (fun _ _ iv _ => 4 - (intOf iv).toNat)
 case atStart => exact ⟨0, rfl, .inl ⟨by omega, rfl, rfl⟩⟩
 case round =>
  obtain ⟨k, rfl, ⟨hk, rfl, rfl⟩ | ⟨rfl, tv', hm4, hb4⟩⟩ := hrel
  ·obtain rfl | rfl | rfl | rfl : k = 0 ∨ k = 1 ∨ k = 2 ∨ k = 3 := by omega
   ·have HC0 := Lib.hid (HCO.out 0)
    rw [show decide ((0 : Int) ∈ [(0 : Int), 1, 2]) = true by decide] at HC0
    go_wp2_with fail
    refine HC0.out.mono ?_
    rintro e w5 ⟨rfl, rfl⟩
    go_wp2
    exact ⟨⟨1, rfl, .inl ⟨by omega, rfl, by first | rfl | trivial⟩⟩, by simp [intOf]⟩
   ·have HC0 := Lib.hid (HCO.out 1)
    rw [show decide ((1 : Int) ∈ [(0 : Int), 1, 2]) = true by decide] at HC0
    go_wp2_with fail
    refine HC0.out.mono ?_
    rintro e w5 ⟨rfl, rfl⟩
    go_wp2
    exact ⟨⟨2, rfl, .inl ⟨by omega, rfl, by first | rfl | trivial⟩⟩, by simp [intOf]⟩
   ·have HC0 := Lib.hid (HCO.out 2)
    rw [show decide ((2 : Int) ∈ [(0 : Int), 1, 2]) = true by decide] at HC0
    go_wp2_with fail
    refine HC0.out.mono ?_
    rintro e w5 ⟨rfl, rfl⟩
    go_wp2
    exact ⟨⟨3, rfl, .inl ⟨by omega, rfl, by first | rfl | trivial⟩⟩, by simp [intOf]⟩
   ·have HC0 := Lib.hid (HCO.out 3)
    rw [show decide ((3 : Int) ∈ [(0 : Int), 1, 2]) = false by decide] at HC0
    go_wp2_with fail
    refine HC0.out.mono ?_
    rintro e w5 ⟨rfl, rfl⟩
    obtain ⟨ta, tc, -, hr⟩ := HM.out.read
    have hin := hr.in_ (by rw [HL.out]; omega) (by rw [HL4.out]; omega)
    have HHA := Lib.hid (having_any 0 wr hr hin)
    clear hin hr
    go_wp2_with fail
    refine HHA.out.mono ?_
    rintro e w6 ⟨fr, rfl, hb6⟩
    have hm6 := HM.out.below hb6
    have hB6 : Below w.heap.size w w6 := HB3.out.trans (hb6.mono HB3.out.size)
    obtain ⟨ta, tc, -, hr6⟩ := hm6.read
    have hin6 := hr6.in_ (by rw [HL.out]; omega) (by rw [HL4.out]; omega)
    have HIN := Lib.hid (Insert_any 3 p0 p1 3 (g : Int) 0 0 cnt fr (fun W w' => ∃ tv', MeshO 33 41 w' w2.heap.size mb pb pc tv' P (S4) ∧ Mut W w' mb tv tv') w6 hr6 H3.out
     (fun W hW => HFN.out mb pb pc ta tc fr W (hr6.below hW) ⟨Nat.lt_of_lt_of_le hin6.m hW.size, Nat.lt_of_lt_of_le hin6.p hW.size, fun b hb => Nat.lt_of_lt_of_le (hin6.t b hb) hW.size⟩)
     (fun _ W hW => HPU.out w2.heap.size mb pb pc tv W (hm6.below hW)))
    have HB6 := Lib.hid hB6
    clear hb6 hm6 hB6 hr6 hin6
    go_wp2_with fail
    refine HIN.out.mono ?_
    rintro e w7 (⟨h, -⟩ | ⟨-, rfl, W, hW, tv', hm7, hmu7⟩)
    ·exact absurd h (by decide)
    ·have hlow := HM.out.low
     have FIN := Lib.hid (And.intro hm7 ((HB6.out.trans (hW.mono HB6.out.size)).trans (hmu7.below (by have := HB6.out.size; have := hW.size; omega) (by have := HLO.out; omega) (fun k hk => by have := (HM.out.row.lt k hk).1; have := HLO.out; omega))))
     clear hm7 hmu7 hlow
     go_wp2
     exact ⟨⟨4, rfl, .inr ⟨rfl, tv', FIN.out.1, FIN.out.2⟩⟩, by simp [intOf]⟩
  ·have FIN := Lib.hid (And.intro hm4 hb4)
   clear hm4 hb4
   go_wp2
   refine bodyPost_ret (v := .tuple #[.pointer (some ⟨mb, 0, none⟩), .bool true]) ?_ rfl ?_
   ·simp [results, Tryz.results14, go_sem]
   exact ⟨mb, pb, pc, tv', rfl, ⟨FIN.out.1.box, owns_mono FIN.out.1.prow HLO.out, owns_mono FIN.out.1.row HLO.out, by have := FIN.out.1.low; have := HLO.out; omega, FIN.out.1.apart, FIN.out.1.short⟩, FIN.out.2⟩
end Go.Proofs.YtecnnpkpgbbfkaaGreat
/- The statements' fit (layer 12): a square is built. Written by tools/grow6.py. -/
namespace Go.MagM
/-- How many of the first k have no Ghost, and aren't gone. -/
def cntR (S : List TriM) : Nat → Nat
 | 0 => 0
 | k + 1 => cntR S k + (match S[k]? with
  | some T => if 0 ≤ T.v0 ∧ 0 ≤ T.v1 ∧ 0 ≤ T.v2 then 1 else 0
  | none => 0)
theorem cntR_yes {S : List TriM} {k : Nat} {T : TriM} (h : S[k]? = some T) (hv : 0 ≤ T.v0 ∧ 0 ≤ T.v1 ∧ 0 ≤ T.v2) : cntR S (k + 1) = cntR S k + 1 := by rw [cntR, h]; simp only []; rw [if_pos hv]
theorem cntR_no {S : List TriM} {k : Nat} {T : TriM} (h : S[k]? = some T) (hv : ¬ (0 ≤ T.v0 ∧ 0 ≤ T.v1 ∧ 0 ≤ T.v2)) : cntR S (k + 1) = cntR S k := by rw [cntR, h]; simp only []; rw [if_neg hv]; rfl
theorem cntR_le (S : List TriM) : ∀ k, cntR S k ≤ k
 | 0 => Nat.le_refl _
 | k + 1 => by
  have := cntR_le S k
  rw [cntR]
  split
  ·split <;> omega
  ·omega
def sqP : List (Int × Int) := [(0, 0), (2, 0), (0, 2), (2, 2)]
def sqS : List TriM := [⟨0, 1, 2, 4, 2, 3, false, false, false⟩, ⟨-1, 2, 3, 4, 5, 2, false, false, false⟩, ⟨0, 2, -1, 1, 3, 0, false, false, false⟩, ⟨1, 0, -1, 2, 5, 0, false, false, false⟩, ⟨2, 1, 3, 5, 1, 0, false, false, false⟩, ⟨1, -1, 3, 1, 4, 3, false, false, false⟩]
end Go.MagM
namespace Go.Proofs.YtecnnpkpgbbfkaaGreat
open Go.RowKit Go.MagM
/-- A mesh is sound, checked triangle by triangle. -/
theorem sound_of {P : List (Int × Int)} {S : List TriM} (hs : List Nat) (h1 : ((List.range S.length).all fun k => match S[k]? with
  | some T => okT P S k T
  | none => true) = true) (h2 : borderM S = hs.map (fun v : Nat => (v : Int))) (h3 : hs ≠ []) (h4 : hs.length = ghN S S.length) (h5 : (hs.all fun v => decide (v < P.length)) = true) (h6 : convexM P hs = true) : SoundIs P S true := by
 refine .inr ⟨rfl, fun k T hT => ?_, by rw [h2]; simpa using h3, by rw [h2, List.length_map]; exact h4, hs, h2, fun v hv => by have := List.all_eq_true.1 h5 v hv; simpa using this, h6⟩
 have hk := (List.getElem?_eq_some_iff.1 hT).1
 have := List.all_eq_true.1 h1 k (List.mem_range.2 hk)
 simp only [hT] at this
 exact this
theorem sq_sound : SoundIs sqP sqS true := sound_of [0, 1, 3, 2] (by decide +kernel) (by decide +kernel) (by decide) (by decide +kernel) (by decide) (by decide +kernel)
theorem sq_in : InPs sqP := by
 intro p hp
 simp [sqP] at hp
 rcases hp with rfl | rfl | rfl | rfl <;> (unfold InP; omega)
theorem sq_base (ok : Bool) (s t : Nat) (h : BaseIs sqP ok s t) : ok = true ∧ s = 1 ∧ t = 2 := by
 have e1 : ptA sqP 1 ≠ ptA sqP 0 := by decide
 have e2 : crsP (ptA sqP 0) (ptA sqP 1) (ptA sqP 2) ≠ 0 := by decide
 have hl : sqP.length = 4 := rfl
 rcases h with ⟨h0, h1, h2, h3, h4, h5, h6, h7⟩ | ⟨h0, -, -, k, h1, h2⟩
 ·have hs : s = 1 := by
   rcases Nat.lt_or_ge 1 s with g | g
   ·exact absurd (h4 1 g) e1
   ·omega
  subst hs
  refine ⟨h0, rfl, ?_⟩
  rcases Nat.lt_or_ge 2 t with g | g
  ·exact absurd (h6 2 (by omega) g) e2
  ·omega
 ·exfalso
  have hk : k ≤ 1 := by
   rcases Nat.lt_or_ge 1 k with g | g
   ·exact absurd (h1 1 g (by omega)) e1
   ·exact g
  rcases h2 with h2 | ⟨h2, h3⟩
  ·omega
  ·have hk1 : k = 1 := by
    rcases Nat.lt_or_ge 0 k with g | g
    ·omega
    ·obtain rfl : k = 0 := by omega
     exact absurd rfl h2
   subst hk1
   exact e2 (h3 2 (by omega) (by omega))
theorem sq_build (sb sc : Nat) (w : World) (hc : PtsIn w sb sqP) : Calls Tryz.prog 14 #[.slice (some ⟨sb, 0, none⟩) 4 sc] w fun e w' => ∃ mb pb pc tv, e = .returned (.tuple #[.pointer (some ⟨mb, 0, none⟩), .bool true]) ∧ MeshO 33 41 w' w.heap.size mb pb pc tv sqP sqS ∧ Below w.heap.size w w' := by
 have e : sortL [((1 : Nat) : Int)] = [((1 : Nat) : Int)] := sortL_one _
 refine Build4_any sqP 1 2 2 2 sqS sb sc w sq_in rfl hc sq_base (by decide +kernel) rfl (by omega) (by decide +kernel) (fun k hk hne => ?_) ?_ ?_ (fun s hs => ?_)
 ·obtain rfl | rfl | rfl : k = 0 ∨ k = 2 ∨ k = 3 := by omega
  all_goals decide +kernel
 ·unfold putM
  rw [e]
  rfl
 ·exact (show rimR (newM ((0 : Nat) : Int) ((1 : Nat) : Int) ((2 : Nat) : Int)) [((1 : Nat) : Int)] = [⟨-1, 2, 2, 0, false⟩, ⟨2, 1, 0, 0, false⟩, ⟨1, -1, 3, 1, false⟩] from rfl) ▸ (by simp)
 ·rw [show rimR (newM ((0 : Nat) : Int) ((1 : Nat) : Int) ((2 : Nat) : Int)) [((1 : Nat) : Int)] = [⟨-1, 2, 2, 0, false⟩, ⟨2, 1, 0, 0, false⟩, ⟨1, -1, 3, 1, false⟩] from rfl] at hs
  simp only [List.mem_cons, List.not_mem_nil, or_false] at hs
  rcases hs with rfl | rfl | rfl
  ·exact ⟨2, 0, rfl, by decide, by omega, rfl, by omega⟩
  ·exact ⟨0, 0, rfl, by decide, by omega, rfl, by omega⟩
  ·exact ⟨3, 1, rfl, by decide, by omega, rfl, by omega⟩
set_option maxRecDepth 100000 in
set_option maxHeartbeats 16000000 in
theorem fit12_any (w : World) : Calls Tryz.prog 12 #[] w fun e w' => e = .returned (.bool true) ∧ Below w.heap.size w w' := by
 obtain ⟨w1, hw1, pp, hb1, hs1⟩ := new_box w _ rfl [.int .i64 0, .int .i64 0, .int .i64 2, .int .i64 0, .int .i64 0, .int .i64 2, .int .i64 2, .int .i64 2] 33
 have hpt : PtsIn w1 w.heap.size sqP := fun i x y hi => by
  match i, hi with
  | 0, hi => cases hi; exact ⟨pp.c 0 _ rfl, pp.c 1 _ rfl⟩
  | 1, hi => cases hi; exact ⟨pp.c 2 _ rfl, pp.c 3 _ rfl⟩
  | 2, hi => cases hi; exact ⟨pp.c 4 _ rfl, pp.c 5 _ rfl⟩
  | 3, hi => cases hi; exact ⟨pp.c 6 _ rfl, pp.c 7 _ rfl⟩
  | _ + 4, hi => cases hi
 have HN := Lib.hid (sq_build w.heap.size 4 w1 hpt)
 have HB1 := Lib.hid hb1
 clear pp hb1 hs1 hpt
 go_enter Tryz.func12, Tryz.ntmps12
 go_wp2_with fail
 refine HN.out.mono ?_
 rintro e w2 ⟨mb, pb, pc, tv, rfl, hm, hb2⟩
 obtain ⟨tb, tc, rfl, hr⟩ := MeshO.sl hm (by decide)
 have hB2 := HB1.out.trans (hb2.mono HB1.out.size)
 have hso := Sound_any true w2 hr sq_in (by decide) sq_sound
 have HR := Lib.hid hr; have HB2 := Lib.hid hB2; have HSO := Lib.hid hso
 clear hm hb2 hr hB2 hso
 go_wp2_with fail
 refine HSO.out.mono ?_
 rintro e w3 ⟨rfl, hb3⟩
 have hB3 := HB2.out.trans (hb3.mono HB2.out.size)
 have hr3 := HR.out.below hb3
 have HR3 := Lib.hid hr3; have HB3 := Lib.hid hB3
 have c2 : w3.cell? ⟨mb, 1, none⟩ = some (.slice (some ⟨tb, 0, none⟩) 6 tc) := hr3.box.c 1 _ rfl
 clear hr3 hB3 hb3
 go_wp2
 clear c2
 go_loopw [3, 5, 31] (fun nv _ iv wr => ∃ k : Nat, k ≤ 6 ∧ iv = .int .i64 (k : Int) ∧ nv = .int .i64 ((cntR sqS k : Nat) : Int) ∧ Below w3.heap.size w3 wr) (fun _ _ iv _ => 6 - (intOf iv).toNat)
 case atStart => exact ⟨0, by omega, rfl, rfl, Below.refl _ _⟩
 case round =>
  obtain ⟨k, hk, rfl, rfl, hbw⟩ := hrel
  by_cases hlt : k < 6
  ·have hyd : decide ((k : Int) < 6) = true := decide_eq_true (by omega)
   obtain ⟨X, hX⟩ : ∃ X, sqS[k]? = some X := ⟨_, List.getElem?_eq_getElem (by show k < 6; exact hlt)⟩
   have hr := HR3.out.below hbw
   obtain ⟨tb', htb, -, h9⟩ := hr.tris.get hX
   simp only [Option.some.injEq, Addr.mk.injEq, and_true] at htb
   subst htb
   obtain ⟨c0, c1, c2, c3, c4, c5, c6, c7, c8⟩ := h9
   obtain ⟨v0, v1, v2, n0, n1, n2, f0, f1, f2⟩ := X
   simp only [] at c0 c1 c2 c3 c4 c5 c6 c7 c8
   obtain ⟨xb, hxb⟩ : ∃ x, wr.heap.size = x := ⟨_, rfl⟩
   obtain ⟨w4, hw4, px, hb4, hs4⟩ := new_box wr _ rfl [.int .i64 v0, .int .i64 v1, .int .i64 v2, .int .i64 n0, .int .i64 n1, .int .i64 n2, .bool f0, .bool f1, .bool f2] 41
   rw [hxb] at px
   have d0 := px.c 0 _ rfl; have d1 := px.c 1 _ rfl; have d2 := px.c 2 _ rfl
   have FIN := Lib.hid (hbw.trans (hb4.mono hbw.size))
   have hcl := cntR_le sqS k
   have HX := Lib.hid hX
   have j1 : (0 : Int) ≤ (k : Int) := by omega
   have j2 : (k : Int) < 6 := by omega
   have hwc : IntKind.i64.wrap ((cntR sqS k : Int) + 1) = (cntR sqS k : Int) + 1 := by rw [IntKind.wrap_i64]; omega
   clear hX hr hbw px hb4 hs4
   by_cases hv : 0 ≤ v0 ∧ 0 ≤ v1 ∧ 0 ≤ v2
   ·have hcn := Lib.hid (cntR_yes HX.out hv)
    obtain ⟨e0, e1, e2⟩ := hv
    go_wp2
    refine ⟨⟨k + 1, by omega, by go_num, ?_, FIN.out⟩, by simp [intOf]; omega⟩
    rw [hcn.out]; go_num
   ·have hcn := Lib.hid (cntR_no HX.out hv)
    by_cases e0 : 0 ≤ v0
    ·by_cases e1 : 0 ≤ v1
     ·have e2 : ¬ 0 ≤ v2 := fun h => hv ⟨e0, e1, h⟩
      clear hv
      go_wp2
      refine ⟨⟨k + 1, by omega, by go_num, ?_, FIN.out⟩, by simp [intOf]; omega⟩
      rw [hcn.out]
     ·clear hv
      go_wp2
      refine ⟨⟨k + 1, by omega, by go_num, ?_, FIN.out⟩, by simp [intOf]; omega⟩
      rw [hcn.out]
    ·clear hv
     go_wp2
     refine ⟨⟨k + 1, by omega, by go_num, ?_, FIN.out⟩, by simp [intOf]; omega⟩
     rw [hcn.out]
  ·obtain rfl : k = 6 := by omega
   have hcn : cntR sqS 6 = 2 := by decide
   rw [hcn]
   have hr := HR3.out.below hbw
   have c0 : wr.cell? ⟨mb, 0, none⟩ = some (.slice (some ⟨pb, 0, none⟩) 4 pc) := hr.box.c 0 _ rfl
   have HH := Lib.hid (Hull_any wr hr (by decide) (by decide +kernel))
   have HBW := Lib.hid (HB3.out.trans (hbw.mono HB3.out.size))
   clear hr hbw
   go_wp2_with fail
   refine HH.out.mono ?_
   rintro e w5 ⟨g, c, rfl, -, -, -, hb5⟩
   have FIN := Lib.hid (HBW.out.trans (hb5.mono HBW.out.size))
   have hl : (borderM sqS).length = 4 := by decide +kernel
   rw [hl]
   clear hb5 hl c0
   go_wp2
   go_ret
   exact ⟨rfl, FIN.out⟩
end Go.Proofs.YtecnnpkpgbbfkaaGreat
/- Convex polygons over Rat: what lies within is a mean of three corners. Over no program; written ahead of layer 8's code. -/
namespace Go.Proofs.YtecnnpkpgbbfkaaGreat
open Go.MagM
/-- Twice the area of a triangle. -/
def crossQ (a b s : Rat × Rat) : Rat := (b.1 - a.1) * (s.2 - a.2) - (b.2 - a.2) * (s.1 - a.1)
theorem crossQ_cyc (a b s : Rat × Rat) : crossQ b s a = crossQ a b s := by unfold crossQ; grind
theorem crossQ_aab (a s : Rat × Rat) : crossQ a a s = 0 := by unfold crossQ; grind
theorem crossQ_aba (a b : Rat × Rat) : crossQ a b a = 0 := by unfold crossQ; grind
theorem crossQ_abb (a b : Rat × Rat) : crossQ a b b = 0 := by unfold crossQ; grind
/-- Corner i, going round. -/
def cor (l : List (Rat × Rat)) (i : Nat) : Rat × Rat := l.getD (i % l.length) (0, 0)
theorem cor_add (l : List (Rat × Rat)) (i : Nat) : cor l (i + l.length) = cor l i := by unfold cor; rw [Nat.add_mod_right]
/-- A convex polygon of three corners or more: each corner lies strictly to the left of each side of which it is no end. -/
def Conv (l : List (Rat × Rat)) : Prop := 3 ≤ l.length ∧ ∀ i k, i < l.length → k < l.length → k ≠ i → k ≠ (i + 1) % l.length → 0 < crossQ (cor l i) (cor l (i + 1)) (cor l k)
end Go.Proofs.YtecnnpkpgbbfkaaGreat
/- Convex polygons by their triples: any three corners, in their order, turn left. Over no program; written ahead of layer 8's code. -/
namespace Go.Proofs.YtecnnpkpgbbfkaaGreat
open Go.MagM
/-- Any three of them, in their order, turn left. -/
def Tri (l : List (Rat × Rat)) : Prop := ∀ a b c, List.Sublist [a, b, c] l → 0 < crossQ a b c
theorem Tri.sub {l k : List (Rat × Rat)} (h : Tri l) (hs : List.Sublist k l) : Tri k := fun a b c h1 => h a b c (h1.trans hs)
/-- By places: the same. -/
theorem Tri.at {l : List (Rat × Rat)} (h : Tri l) {i j k : Nat} (hij : i < j) (hjk : j < k) (hk : k < l.length) : 0 < crossQ (cor l i) (cor l j) (cor l k) := by
 apply h
 have e : ∀ m, m < l.length → cor l m = l[m]?.getD (0, 0) := fun m hm => by unfold cor; rw [Nat.mod_eq_of_lt hm, List.getD_eq_getElem?_getD]
 rw [e i (by omega), e j (by omega), e k hk]
 have s1 : List.Sublist [l[i]?.getD (0, 0)] (l.take j) := by
  rw [List.singleton_sublist, List.getElem?_eq_getElem (by omega)]
  exact List.mem_take_iff_getElem.2 ⟨i, by omega, rfl⟩
 have s2 : List.Sublist [l[j]?.getD (0, 0), l[k]?.getD (0, 0)] (l.drop j) := by
  rw [List.drop_eq_getElem_cons (by omega), List.getElem?_eq_getElem (by omega : j < l.length)]
  refine List.Sublist.cons_cons _ ?_
  rw [List.singleton_sublist, List.getElem?_eq_getElem hk]
  exact List.mem_drop_iff_getElem.2 ⟨k - (j + 1), by omega, by simp only [Option.getD_some]; congr 1; omega⟩
 have := s1.append s2
 rwa [List.take_append_drop] at this
theorem tri_of {l : List (Rat × Rat)} (h : ∀ i j k, i < j → j < k → k < l.length → 0 < crossQ (cor l i) (cor l j) (cor l k)) : Tri l := by
 intro a b c hs
 obtain ⟨is, hi, hp⟩ := List.sublist_eq_map_getElem hs
 match is, hi, hp with
 | [i, j, k], hi, hp =>
  simp at hi hp
  obtain ⟨rfl, rfl, rfl⟩ := hi
  have e : ∀ m : Fin l.length, cor l m.1 = l[m.1] := fun m => by unfold cor; rw [Nat.mod_eq_of_lt m.2, List.getD_eq_getElem?_getD, List.getElem?_eq_getElem m.2]; rfl
  have := h i.1 j.1 k.1 hp.1.1 hp.2 k.2
  rwa [e, e, e] at this
 | [], hi, _ => simp at hi
 | [_], hi, _ => simp at hi
 | [_, _], hi, _ => simp at hi
 | _ :: _ :: _ :: _ :: _, hi, _ => simp at hi
/-- Directions that turn left one behind the other, all to the left of one: the last one is to the left of the first one. -/
theorem cross_trans {o e u v w : Rat × Rat} (h1 : 0 ≤ crossQ o e u) (h2 : 0 < crossQ o e v) (h3 : 0 < crossQ o e w) (h4 : 0 < crossQ o u v) (h5 : 0 < crossQ o v w) : 0 < crossQ o u w := by
 have id1 : crossQ o e v * crossQ o u w = crossQ o e u * crossQ o v w + crossQ o e w * crossQ o u v := by unfold crossQ; grind
 have k1 := Rat.mul_nonneg h1 (Rat.le_of_lt h5)
 have k2 := Rat.mul_pos h3 h4
 by_cases h : 0 < crossQ o u w
 ·exact h
 ·have := Rat.mul_nonneg (Rat.le_of_lt h2) (show 0 ≤ -crossQ o u w by grind)
  grind
theorem cor_lt {l : List (Rat × Rat)} {i : Nat} (h : i + 1 < l.length) : (i + 1) % l.length = i + 1 := Nat.mod_eq_of_lt h
/-- Of a convex polygon any three corners turn left. -/
theorem Conv.tri {l : List (Rat × Rat)} (h : Conv l) : Tri l := by
 obtain ⟨h3, hc⟩ := h
 apply tri_of
 intro i j k hij
 have edge : ∀ m, i < m → m + 1 < l.length → 0 < crossQ (cor l i) (cor l m) (cor l (m + 1)) := fun m hm hl => by
  have := hc m i (by omega) (by omega) (by omega) (by rw [cor_lt hl]; omega)
  rw [crossQ_cyc] at this; exact this
 have first : ∀ m, i + 1 < m → m < l.length → 0 < crossQ (cor l i) (cor l (i + 1)) (cor l m) := fun m hm hl => hc i m (by omega) hl (by omega) (by rw [cor_lt (by omega)]; omega)
 induction k with
 | zero => intro h; omega
 | succ k ih =>
  intro hjk hk
  by_cases e : j = k
  ·subst e; exact edge j hij hk
  ·by_cases e2 : j = i + 1
   ·subst e2; exact first (k + 1) (by omega) hk
   ·exact cross_trans (e := cor l (i + 1)) (Rat.le_of_lt (first j (by omega) (by omega))) (first k (by omega) (by omega)) (first (k + 1) (by omega) hk) (ih (by omega) (by omega)) (edge k (by omega) hk)
theorem Tri.conv {l : List (Rat × Rat)} (h : Tri l) (h3 : 3 ≤ l.length) : Conv l := by
 refine ⟨h3, fun i k hi hk h1 h2 => ?_⟩
 by_cases hl : i + 1 < l.length
 ·rw [cor_lt hl] at h2
  rcases Nat.lt_or_ge k i with h4 | h4
  ·rw [crossQ_cyc]; exact h.at h4 (by omega) hl
  ·exact h.at (by omega) (by omega) hk
 ·obtain rfl : i = l.length - 1 := by omega
  have e : l.length - 1 + 1 = 0 + l.length := by omega
  rw [e, Nat.zero_add, Nat.mod_self] at h2
  rw [e, cor_add]
  have := h.at (i := 0) (j := k) (k := l.length - 1) (by omega) (by omega) (by omega)
  rw [crossQ_cyc, crossQ_cyc]; exact this
end Go.Proofs.YtecnnpkpgbbfkaaGreat
/- Convex polygons that hold the same points are the same list, begun elsewhere. Over no program; written ahead of layer 8's code. -/
namespace Go.Proofs.YtecnnpkpgbbfkaaGreat
open Go.MagM
theorem cor_get {l : List (Rat × Rat)} {i : Nat} (h : i < l.length) : cor l i = l[i] := by unfold cor; rw [Nat.mod_eq_of_lt h, List.getD_eq_getElem?_getD, List.getElem?_eq_getElem h]; rfl
theorem Tri.nodup {l : List (Rat × Rat)} (h : Tri l) (h3 : 3 ≤ l.length) : l.Nodup := by
 unfold List.Nodup
 rw [List.pairwise_iff_getElem]
 intro i j hi hj hij e
 rw [← cor_get hi, ← cor_get hj] at e
 by_cases h1 : j + 1 < l.length
 ·have := h.at (i := i) (j := j) (k := j + 1) hij (by omega) h1
  rw [e, crossQ_aab] at this; exact Rat.lt_irrefl this
 ·by_cases h2 : i + 1 < j
  ·have := h.at (i := i) (j := i + 1) (k := j) (by omega) h2 hj
   rw [e, crossQ_aba] at this; exact Rat.lt_irrefl this
  ·have := h.at (i := 0) (j := i) (k := j) (by omega) hij hj
   rw [e, crossQ_abb] at this; exact Rat.lt_irrefl this
/-- Areas, along the corners. -/
def det (a b : Rat × Rat) : Rat := a.1 * b.2 - a.2 * b.1
end Go.Proofs.YtecnnpkpgbbfkaaGreat
/- Convex polygons that hold the same points: as many corners, the same area. Over no program; written ahead of layer 8's code. -/
namespace Go.Proofs.YtecnnpkpgbbfkaaGreat
open Go.MagM
theorem cor_mod (l : List (Rat × Rat)) (i : Nat) : cor l (i % l.length) = cor l i := by unfold cor; rw [Nat.mod_mod]
end Go.Proofs.YtecnnpkpgbbfkaaGreat
/- A convex polygon, cut by a half-plane: places on its border, and that any three of them turn left. Over no program; written ahead of layer 8's code. -/
namespace Go.Proofs.YtecnnpkpgbbfkaaGreat
open Go.MagM
/-- More than 0 beyond a half-plane. -/
def fvQ (A B C : Rat) (p : Rat × Rat) : Rat := A * p.1 + B * p.2 - C
/-- So far along the way. -/
def wayQ (a b : Rat × Rat) (t : Rat) : Rat × Rat := (a.1 + t * (b.1 - a.1), a.2 + t * (b.2 - a.2))
theorem wayQ_zero (a b : Rat × Rat) : wayQ a b 0 = a := by unfold wayQ; exact Prod.ext (by simp only []; grind) (by simp only []; grind)
theorem fv_way (A B C : Rat) (a b : Rat × Rat) (t : Rat) : fvQ A B C (wayQ a b t) = (1 - t) * fvQ A B C a + t * fvQ A B C b := by unfold fvQ wayQ; grind
theorem cross_way1 (a b y z : Rat × Rat) (t : Rat) : crossQ (wayQ a b t) y z = (1 - t) * crossQ a y z + t * crossQ b y z := by unfold crossQ wayQ; grind
theorem cross_way2 (x a b z : Rat × Rat) (t : Rat) : crossQ x (wayQ a b t) z = (1 - t) * crossQ x a z + t * crossQ x b z := by unfold crossQ wayQ; grind
theorem cross_way3 (x y a b : Rat × Rat) (t : Rat) : crossQ x y (wayQ a b t) = (1 - t) * crossQ x y a + t * crossQ x y b := by unfold crossQ wayQ; grind
theorem mix_nonneg {t u v : Rat} (h0 : 0 ≤ t) (h1 : t < 1) (hu : 0 ≤ u) (hv : 0 ≤ v) : 0 ≤ (1 - t) * u + t * v := by
 have a := Rat.mul_nonneg (show 0 ≤ 1 - t by grind) hu
 have b := Rat.mul_nonneg h0 hv
 grind
theorem mix_pos {t u v : Rat} (h0 : 0 ≤ t) (h1 : t < 1) (hu : 0 < u) (hv : 0 ≤ v) : 0 < (1 - t) * u + t * v := by
 have a := Rat.mul_pos (show 0 < 1 - t by grind) hu
 have b := Rat.mul_nonneg h0 hv
 grind
theorem mix_pos' {t u v : Rat} (h0 : 0 < t) (h1 : t < 1) (hu : 0 ≤ u) (hv : 0 < v) : 0 < (1 - t) * u + t * v := by
 have a := Rat.mul_nonneg (show 0 ≤ 1 - t by grind) hu
 have b := Rat.mul_pos h0 hv
 grind
/-- Corners in their order, the first one again at the end. -/
theorem Tri.wrap {l : List (Rat × Rat)} (h : Tri l) {i j k : Nat} (hij : i < j) (hjk : j < k) (hk : k ≤ l.length) (hn : ¬ (i = 0 ∧ k = l.length)) : 0 < crossQ (cor l i) (cor l j) (cor l k) := by
 rcases Nat.lt_or_ge k l.length with h1 | h1
 ·exact h.at hij hjk h1
 ·obtain rfl : k = l.length := by omega
  have e : cor l l.length = cor l 0 := by have := cor_add l 0; rwa [Nat.zero_add] at this
  rw [e, crossQ_cyc]
  exact h.at (by omega) hij (by omega)
theorem Tri.wrap0 {l : List (Rat × Rat)} (h : Tri l) {i j k : Nat} (hij : i ≤ j) (hjk : j ≤ k) (hk : k ≤ l.length) : 0 ≤ crossQ (cor l i) (cor l j) (cor l k) := by
 by_cases h1 : i = j
 ·subst h1; rw [crossQ_aab]; exact Rat.le_refl
 ·by_cases h2 : j = k
  ·subst h2; rw [crossQ_abb]; exact Rat.le_refl
  ·by_cases h3 : i = 0 ∧ k = l.length
   ·obtain ⟨rfl, rfl⟩ := h3
    have e : cor l l.length = cor l 0 := by have := cor_add l 0; rwa [Nat.zero_add] at this
    rw [e, crossQ_aba]; exact Rat.le_refl
   ·exact Rat.le_of_lt (h.wrap (by omega) (by omega) hk h3)
/-- A place on the border: the side, and how far along it. -/
def posQ (l : List (Rat × Rat)) (q : Nat × Rat) : Rat × Rat := wayQ (cor l q.1) (cor l (q.1 + 1)) q.2
/-- Where side i is kept: its beginning; where it is crossed. -/
def partT (A B C : Rat) (l : List (Rat × Rat)) (i : Nat) : List (Nat × Rat) :=
 (if fvQ A B C (cor l i) ≤ 0 then [(i, 0)] else []) ++
  (if fvQ A B C (cor l i) * fvQ A B C (cor l (i + 1)) < 0 then [(i, fvQ A B C (cor l i) / (fvQ A B C (cor l i) - fvQ A B C (cor l (i + 1))))] else [])
def cutT (A B C : Rat) (l : List (Rat × Rat)) : List (Nat × Rat) := (List.range l.length).flatMap (partT A B C l)
/-- What is known of a place. -/
structure Place (A B C : Rat) (l : List (Rat × Rat)) (q : Nat × Rat) : Prop where
 lt : q.1 < l.length
 at0 : 0 ≤ q.2
 at1 : q.2 < 1
 keep : q.2 = 0 → fvQ A B C (cor l q.1) ≤ 0
 cross : q.2 ≠ 0 → fvQ A B C (cor l q.1) * fvQ A B C (cor l (q.1 + 1)) < 0 ∧ q.2 = fvQ A B C (cor l q.1) / (fvQ A B C (cor l q.1) - fvQ A B C (cor l (q.1 + 1)))
theorem ratio_in {f g : Rat} (h : f * g < 0) : 0 < f / (f - g) ∧ f / (f - g) < 1 := by
 have hne : f - g ≠ 0 := by
  intro e
  have e2 : f = g := by grind
  subst e2
  by_cases k : 0 ≤ f
  ·have := Rat.mul_nonneg k k; grind
  ·have := Rat.mul_nonneg (show 0 ≤ -f by grind) (show 0 ≤ -f by grind); grind
 have hr := Rat.div_mul_cancel (a := f) hne
 generalize f / (f - g) = r at *
 by_cases hf : 0 < f
 ·have hg : g < 0 := by
   by_cases k : g < 0
   ·exact k
   ·have := Rat.mul_nonneg (Rat.le_of_lt hf) (show 0 ≤ g by grind); grind
  have hd : 0 < f - g := by grind
  constructor
  ·by_cases k : 0 < r
   ·exact k
   ·have := Rat.mul_nonneg (show 0 ≤ -r by grind) (Rat.le_of_lt hd); grind
  ·by_cases k : r < 1
   ·exact k
   ·have := Rat.mul_nonneg (show 0 ≤ r - 1 by grind) (Rat.le_of_lt hd); grind
 ·have hf2 : f < 0 := by
   by_cases k : f < 0
   ·exact k
   ·have : f = 0 := by grind
    subst this; grind
  have hg : 0 < g := by
   by_cases k : 0 < g
   ·exact k
   ·have := Rat.mul_nonneg (show 0 ≤ -f by grind) (show 0 ≤ -g by grind); grind
  have hd : 0 < g - f := by grind
  constructor
  ·by_cases k : 0 < r
   ·exact k
   ·have := Rat.mul_nonneg (show 0 ≤ -r by grind) (Rat.le_of_lt hd); grind
  ·by_cases k : r < 1
   ·exact k
   ·have := Rat.mul_nonneg (show 0 ≤ r - 1 by grind) (Rat.le_of_lt hd); grind
theorem mem_part {A B C : Rat} {l : List (Rat × Rat)} {i : Nat} {q : Nat × Rat} (hi : i < l.length) (h : q ∈ partT A B C l i) : q.1 = i ∧ Place A B C l q := by
 unfold partT at h
 rw [List.mem_append] at h
 rcases h with h | h
 ·split at h
  ·rename_i hk
   simp at h; subst h
   exact ⟨rfl, hi, Rat.le_refl, by simp only []; decide, fun _ => hk, fun h => absurd rfl h⟩
  ·simp at h
 ·split at h
  ·rename_i hk
   simp at h; subst h
   obtain ⟨h1, h2⟩ := ratio_in hk
   exact ⟨rfl, hi, Rat.le_of_lt h1, h2, fun h0 => by simp only [] at h0; grind, fun _ => ⟨hk, rfl⟩⟩
  ·simp at h
theorem mem_cutT {A B C : Rat} {l : List (Rat × Rat)} {q : Nat × Rat} (h : q ∈ cutT A B C l) : Place A B C l q := by
 unfold cutT at h
 rw [List.mem_flatMap] at h
 obtain ⟨i, hi, h⟩ := h
 exact (mem_part (List.mem_range.1 hi) h).2
/-- Places come in their order. -/
theorem cutT_sorted (A B C : Rat) (l : List (Rat × Rat)) : (cutT A B C l).Pairwise (fun p q => p.1 < q.1 ∨ (p.1 = q.1 ∧ p.2 = 0 ∧ q.2 ≠ 0)) := by
 unfold cutT
 rw [List.pairwise_flatMap]
 constructor
 ·intro i hi
  unfold partT
  split
  ·split
   ·rename_i h1 h2
    have := (ratio_in h2).1
    simp
    grind
   ·simp
  ·split <;> simp
 ·rw [List.pairwise_iff_getElem]
  intro i j hi hj hij p hp q hq
  simp at hi hj
  have e1 := (mem_part (A := A) (B := B) (C := C) (by simpa using hi) hp).1
  have e2 := (mem_part (A := A) (B := B) (C := C) (by simpa using hj) hq).1
  left
  simp at e1 e2
  omega
end Go.Proofs.YtecnnpkpgbbfkaaGreat
/- A convex polygon, cut by a half-plane, is one. Over no program; written ahead of layer 8's code. -/
namespace Go.Proofs.YtecnnpkpgbbfkaaGreat
open Go.MagM
/-- What is left of a polygon. -/
def cutQ (A B C : Rat) (l : List (Rat × Rat)) : List (Rat × Rat) := (cutT A B C l).map (posQ l)
theorem posQ_zero (l : List (Rat × Rat)) (i : Nat) : posQ l (i, 0) = cor l i := wayQ_zero _ _
theorem fv_pos_le {A B C : Rat} {l : List (Rat × Rat)} {q : Nat × Rat} (h : Place A B C l q) : fvQ A B C (posQ l q) ≤ 0 ∧ (q.2 ≠ 0 → fvQ A B C (posQ l q) = 0) := by
 obtain ⟨i, t⟩ := q
 have z : t ≠ 0 → fvQ A B C (posQ l (i, t)) = 0 := fun ht => by
  obtain ⟨h1, h2⟩ := h.cross ht
  simp only [] at h1 h2
  unfold posQ
  rw [fv_way]
  simp only []
  generalize fvQ A B C (cor l i) = f at *
  generalize fvQ A B C (cor l (i + 1)) = g at *
  have hne : f - g ≠ 0 := by
   intro e
   have := (ratio_in h1).1
   rw [e, Rat.div_def, Rat.inv_zero, Rat.mul_zero] at this
   exact Rat.lt_irrefl this
  have hr := Rat.div_mul_cancel (a := f) hne
  rw [← h2] at hr
  grind
 refine ⟨?_, z⟩
 by_cases ht : t = 0
 ·subst ht; rw [posQ_zero]; exact h.keep rfl
 ·rw [z ht]; exact Rat.le_refl
theorem not_both {A B C : Rat} {l : List (Rat × Rat)} {i : Nat} (h1 : fvQ A B C (cor l i) ≤ 0) (h2 : fvQ A B C (cor l (i + 1)) ≤ 0) : ¬ fvQ A B C (cor l i) * fvQ A B C (cor l (i + 1)) < 0 := by
 intro h
 have := Rat.mul_nonneg (show 0 ≤ -fvQ A B C (cor l i) by grind) (show 0 ≤ -fvQ A B C (cor l (i + 1)) by grind)
 grind
theorem Tri.cut {A B C : Rat} {l : List (Rat × Rat)} (h : Tri l) (h3 : 3 ≤ l.length) : Tri (cutQ A B C l) := by
 intro a b c hs
 obtain ⟨qs, hq, e⟩ := List.sublist_map_iff.1 hs
 match qs, hq, e with
 | [(i, r), (j, s), (k, t)], hq, e =>
  simp at e
  obtain ⟨rfl, rfl, rfl⟩ := e
  have P1 := mem_cutT (hq.subset (by simp : (i, r) ∈ [(i, r), (j, s), (k, t)]))
  have P2 := mem_cutT (hq.subset (by simp : (j, s) ∈ [(i, r), (j, s), (k, t)]))
  have P3 := mem_cutT (hq.subset (by simp : (k, t) ∈ [(i, r), (j, s), (k, t)]))
  have hp := (cutT_sorted A B C l).sublist hq
  simp at hp
  obtain ⟨⟨o1, _⟩, o2⟩ := hp
  obtain ⟨l1, a1, b1, c1, d1⟩ := P1
  obtain ⟨l2, a2, b2, c2, d2⟩ := P2
  obtain ⟨l3, a3, b3, c3, d3⟩ := P3
  simp only [] at l1 a1 b1 c1 d1 l2 a2 b2 c2 d2 l3 a3 b3 c3 d3
  have W := fun (x y z : Nat) (h1 : x ≤ y) (h2 : y ≤ z) (h3 : z ≤ l.length) => h.wrap0 h1 h2 h3
  unfold posQ
  simp only []
  rcases o1 with o1 | ⟨rfl, rfl, hs0⟩
  ·rcases o2 with o2 | ⟨rfl, rfl, ht0⟩
   ·-- three sides
    rw [cross_way1]
    have rest : ∀ x, x ≤ j → 0 ≤ crossQ (cor l x) (wayQ (cor l j) (cor l (j + 1)) s) (wayQ (cor l k) (cor l (k + 1)) t) := fun x hx => by
     rw [cross_way2]
     refine mix_nonneg a2 b2 ?_ ?_
     ·rw [cross_way3]; exact mix_nonneg a3 b3 (W _ _ _ hx (by omega) (by omega)) (W _ _ _ hx (by omega) (by omega))
     ·rw [cross_way3]; exact mix_nonneg a3 b3 (W _ _ _ (by omega) (by omega) (by omega)) (W _ _ _ (by omega) (by omega) (by omega))
    refine mix_pos a1 b1 ?_ (rest _ (by omega))
    rw [cross_way2]
    refine mix_pos a2 b2 ?_ ?_
    ·rw [cross_way3]
     exact mix_pos a3 b3 (h.at o1 o2 l3) (W _ _ _ (by omega) (by omega) (by omega))
    ·rw [cross_way3]; exact mix_nonneg a3 b3 (W _ _ _ (by omega) (by omega) (by omega)) (W _ _ _ (by omega) (by omega) (by omega))
   ·-- the last two on one side
    have ht1 : 0 < t := by grind
    obtain ⟨hx, _⟩ := d3 ht0
    rw [wayQ_zero, cross_way3]
    have z : crossQ (wayQ (cor l i) (cor l (i + 1)) r) (cor l j) (cor l j) = 0 := crossQ_abb _ _
    rw [z]
    have main : 0 < crossQ (wayQ (cor l i) (cor l (i + 1)) r) (cor l j) (cor l (j + 1)) := by
     rw [cross_way1]
     by_cases hw : i = 0 ∧ j + 1 = l.length
     ·obtain ⟨rfl, hj⟩ := hw
      have hr0 : r ≠ 0 := by
       intro e
       have k1 := c1 e
       have ej : cor l (j + 1) = cor l 0 := by rw [hj]; have := cor_add l 0; rwa [Nat.zero_add] at this
       rw [ej] at hx
       have k2 := c2 rfl
       exact not_both (A := A) (B := B) (C := C) (l := l) (i := j) k2 (by rw [ej]; exact k1) (by rw [ej]; exact hx)
      exact mix_pos' (by grind) b1 (W _ _ _ (by omega) (by omega) (by omega)) (h.wrap (by omega) (by omega) (by omega) (by omega))
     ·exact mix_pos a1 b1 (h.wrap o1 (by omega) (by omega) hw) (W _ _ _ (by omega) (by omega) (by omega))
    have := Rat.mul_pos ht1 main
    grind
  ·-- the first two on one side
   have hs1 : 0 < s := by grind
   obtain ⟨hx, _⟩ := d2 hs0
   rcases o2 with o2 | ⟨_, e0, _⟩
   ·rw [wayQ_zero, cross_way2]
    have z : crossQ (cor l i) (cor l i) (wayQ (cor l k) (cor l (k + 1)) t) = 0 := crossQ_aab _ _
    rw [z]
    have main : 0 < crossQ (cor l i) (cor l (i + 1)) (wayQ (cor l k) (cor l (k + 1)) t) := by
     rw [cross_way3]
     by_cases hk : k = i + 1
     ·subst hk
      have ht0 : t ≠ 0 := by
       intro e
       exact not_both (c1 rfl) (c3 e) hx
      rw [crossQ_abb]
      exact mix_pos' (by grind) b3 Rat.le_refl (h.wrap (by omega) (by omega) (by omega) (by omega))
     ·exact mix_pos a3 b3 (h.at (by omega) (by omega) l3) (W _ _ _ (by omega) (by omega) (by omega))
    have := Rat.mul_pos hs1 main
    grind
   ·exact absurd e0 hs0
 | [], _, e => simp at e
 | [_], _, e => simp at e
 | [_, _], _, e => simp at e
 | _ :: _ :: _ :: _ :: _, _, e => simp at e
end Go.Proofs.YtecnnpkpgbbfkaaGreat
/- What lies in a convex polygon that is cut: what lies in it, and in the half-plane. Over no program; written ahead of layer 8's code. -/
namespace Go.Proofs.YtecnnpkpgbbfkaaGreat
open Go.MagM
section
variable {A B C : Rat} {l : List (Rat × Rat)}
/-- One place comes ahead of another one. -/
def ltP (p q : Nat × Rat) : Prop := p.1 < q.1 ∨ (p.1 = q.1 ∧ p.2 = 0 ∧ q.2 ≠ 0)
theorem ltP_asym {p q : Nat × Rat} (h : ltP p q) : ¬ ltP q p := by
 rintro (h2 | ⟨h2, h3, h4⟩) <;> rcases h with h | ⟨h, h5, h6⟩
 ·omega
 ·omega
 ·omega
 ·exact h4 h5
theorem ltP_irr {p : Nat × Rat} : ¬ ltP p p := fun h => ltP_asym h h
theorem sorted_at {i j : Nat} (hij : i < j) (hj : j < (cutT A B C l).length) : ltP ((cutT A B C l)[i]'(by omega)) (cutT A B C l)[j] :=
 List.pairwise_iff_getElem.1 (cutT_sorted A B C l) i j (by omega) hj hij
theorem place_at {i : Nat} (hi : i < (cutT A B C l).length) : Place A B C l (cutT A B C l)[i] := mem_cutT (List.getElem_mem _)
theorem mem_keep {i : Nat} (hi : i < l.length) (h : fvQ A B C (cor l i) ≤ 0) : (i, 0) ∈ cutT A B C l := by
 unfold cutT
 rw [List.mem_flatMap]
 refine ⟨i, List.mem_range.2 hi, ?_⟩
 unfold partT
 rw [if_pos h]; simp
theorem mem_cross {i : Nat} (hi : i < l.length) (h : fvQ A B C (cor l i) * fvQ A B C (cor l (i + 1)) < 0) : (i, fvQ A B C (cor l i) / (fvQ A B C (cor l i) - fvQ A B C (cor l (i + 1)))) ∈ cutT A B C l := by
 unfold cutT
 rw [List.mem_flatMap]
 refine ⟨i, List.mem_range.2 hi, ?_⟩
 unfold partT
 rw [if_pos h]; simp
theorem next_of {k : Nat} (hk : k < (cutT A B C l).length) {c : Nat × Rat} (hc : c ∈ cutT A B C l) (h : ltP (cutT A B C l)[k] c) : ∃ h1 : k + 1 < (cutT A B C l).length, c = (cutT A B C l)[k + 1] ∨ ltP (cutT A B C l)[k + 1] c := by
 obtain ⟨m, hm, rfl⟩ := List.mem_iff_getElem.1 hc
 have hkm : k < m := by
  rcases Nat.lt_trichotomy k m with h1 | h1 | h1
  ·exact h1
  ·subst h1; exact absurd h ltP_irr
  ·exact absurd (sorted_at h1 hk) (ltP_asym h)
 refine ⟨by omega, ?_⟩
 by_cases e : k + 1 = m
 ·subst e; exact .inl rfl
 ·exact .inr (sorted_at (by omega) hm)
theorem prev_of {k : Nat} (hk : k + 1 < (cutT A B C l).length) {c : Nat × Rat} (hc : c ∈ cutT A B C l) (h : ltP c (cutT A B C l)[k + 1]) : c = (cutT A B C l)[k] ∨ ltP c (cutT A B C l)[k] := by
 obtain ⟨m, hm, rfl⟩ := List.mem_iff_getElem.1 hc
 have hkm : m < k + 1 := by
  rcases Nat.lt_trichotomy m (k + 1) with h1 | h1 | h1
  ·exact h1
  ·subst h1; exact absurd h ltP_irr
  ·exact absurd (sorted_at h1 hm) (ltP_asym h)
 by_cases e : m = k
 ·subst e; exact .inl rfl
 ·exact .inr (sorted_at (by omega) (by omega))
theorem first_of {c : Nat × Rat} (hc : c ∈ cutT A B C l) : ∃ h : 0 < (cutT A B C l).length, c = (cutT A B C l)[0] ∨ ltP (cutT A B C l)[0] c := by
 obtain ⟨m, hm, rfl⟩ := List.mem_iff_getElem.1 hc
 refine ⟨by omega, ?_⟩
 by_cases e : m = 0
 ·subst e; exact .inl rfl
 ·exact .inr (sorted_at (by omega) hm)
theorem last_of {k : Nat} (hk : k + 1 = (cutT A B C l).length) {c : Nat × Rat} (hc : c ∈ cutT A B C l) : c = (cutT A B C l)[k] ∨ ltP c (cutT A B C l)[k] := by
 obtain ⟨m, hm, rfl⟩ := List.mem_iff_getElem.1 hc
 by_cases e : m = k
 ·subst e; exact .inl rfl
 ·exact .inr (sorted_at (by omega) (by omega))
/-- The place behind the k-th one, going round. -/
def nxt (A B C : Rat) (l : List (Rat × Rat)) (k : Nat) : Nat × Rat := (cutT A B C l).getD ((k + 1) % (cutT A B C l).length) (0, 0)
theorem nxt_in {k : Nat} (h : k + 1 < (cutT A B C l).length) : nxt A B C l k = (cutT A B C l)[k + 1] := by
 unfold nxt; rw [Nat.mod_eq_of_lt h, List.getD_eq_getElem?_getD, List.getElem?_eq_getElem h]; rfl
theorem nxt_end {k : Nat} (h : k + 1 = (cutT A B C l).length) (h0 : 0 < (cutT A B C l).length) : nxt A B C l k = (cutT A B C l)[0] := by
 unfold nxt; rw [h, Nat.mod_self, List.getD_eq_getElem?_getD, List.getElem?_eq_getElem h0]; rfl
/-- Behind a corner that lies strictly within the half-plane one goes on along its side. -/
theorem next_side (h3 : 3 ≤ l.length) {k : Nat} (hk : k < (cutT A B C l).length) (hf : fvQ A B C (posQ l (cutT A B C l)[k]) < 0) :
  ∃ i t, i < l.length ∧ 0 ≤ t ∧ posQ l (cutT A B C l)[k] = cor l i ∧ posQ l (nxt A B C l k) = wayQ (cor l i) (cor l (i + 1)) t := by
 have P := place_at hk
 obtain ⟨i, r, hq⟩ : ∃ i r, (cutT A B C l)[k] = (i, r) := ⟨_, _, rfl⟩
 rw [hq] at P hf
 have hr : r = 0 := by
  by_cases h : r = 0
  ·exact h
  ·have := (fv_pos_le P).2 h; rw [this] at hf; exact absurd hf Rat.lt_irrefl
 subst hr
 rw [posQ_zero] at hf
 have hi := P.lt
 simp only [] at hi
 by_cases hx : fvQ A B C (cor l i) * fvQ A B C (cor l (i + 1)) < 0
 ·have hc := mem_cross hi hx
  have ht := ratio_in hx
  generalize fvQ A B C (cor l i) / (fvQ A B C (cor l i) - fvQ A B C (cor l (i + 1))) = t at *
  obtain ⟨h1, h2⟩ := next_of hk hc (by rw [hq]; exact .inr ⟨rfl, rfl, by simp only []; grind⟩)
  refine ⟨i, t, hi, by grind, by rw [hq]; exact posQ_zero _ _, ?_⟩
  rw [nxt_in h1]
  rcases h2 with h2 | h2
  ·rw [← h2]; rfl
  ·exfalso
   have h4 := sorted_at (A := A) (B := B) (C := C) (l := l) (Nat.lt_succ_self k) h1
   rw [hq] at h4
   generalize (cutT A B C l)[k + 1] = z at *
   rcases h4 with h4 | ⟨h4, _, h5⟩ <;> rcases h2 with h2 | ⟨h2, h6, _⟩
   ·simp only [] at h2 h4; omega
   ·simp only [] at h2 h4; omega
   ·simp only [] at h2 h4; omega
   ·exact h5 h6
 ·have hf1 : fvQ A B C (cor l (i + 1)) ≤ 0 := by
   by_cases h : fvQ A B C (cor l (i + 1)) ≤ 0
   ·exact h
   ·have := Rat.mul_pos (show 0 < -fvQ A B C (cor l i) by grind) (show 0 < fvQ A B C (cor l (i + 1)) by grind)
    exact absurd (show fvQ A B C (cor l i) * fvQ A B C (cor l (i + 1)) < 0 by grind) hx
  have nocross : ∀ t, (i, t) ∈ cutT A B C l → t = 0 := fun t ht => by
   by_cases h : t = 0
   ·exact h
   ·exact absurd ((mem_cutT ht).cross h).1 hx
  refine ⟨i, 1, hi, by decide, by rw [hq]; exact posQ_zero _ _, ?_⟩
  have e1 : wayQ (cor l i) (cor l (i + 1)) 1 = cor l (i + 1) := by unfold wayQ; exact Prod.ext (by simp only []; grind) (by simp only []; grind)
  rw [e1]
  by_cases hn : i + 1 < l.length
  ·have hc := mem_keep hn hf1
   obtain ⟨h1, h2⟩ := next_of hk hc (by rw [hq]; exact .inl (Nat.lt_succ_self i))
   rw [nxt_in h1]
   rcases h2 with h2 | h2
   ·rw [← h2]; exact posQ_zero _ _
   ·exfalso
    have h4 := sorted_at (A := A) (B := B) (C := C) (l := l) (Nat.lt_succ_self k) h1
    have hm : (cutT A B C l)[k + 1] ∈ cutT A B C l := List.getElem_mem _
    rw [hq] at h4
    obtain ⟨zi, zt, hz⟩ : ∃ zi zt, (cutT A B C l)[k + 1] = (zi, zt) := ⟨_, _, rfl⟩
    rw [hz] at h2 h4 hm
    rcases h4 with h4 | ⟨h4, _, h5⟩ <;> rcases h2 with h2 | ⟨h2, h6, h7⟩
    ·simp only [] at h2 h4; omega
    ·exact h7 rfl
    ·simp only [] at h4; subst h4; exact h5 (nocross _ hm)
    ·exact h7 rfl
  ·have e0 : cor l (i + 1) = cor l 0 := by rw [show i + 1 = 0 + l.length by omega]; exact cor_add l 0
   rw [e0] at hf1 ⊢
   have hc := mem_keep (by omega) hf1
   have hlast : k + 1 = (cutT A B C l).length := by
    by_cases h : k + 1 < (cutT A B C l).length
    ·exfalso
     have h4 := sorted_at (A := A) (B := B) (C := C) (l := l) (Nat.lt_succ_self k) h
     have P2 := place_at h
     have hm : (cutT A B C l)[k + 1] ∈ cutT A B C l := List.getElem_mem _
     rw [hq] at h4
     obtain ⟨zi, zt, hz⟩ : ∃ zi zt, (cutT A B C l)[k + 1] = (zi, zt) := ⟨_, _, rfl⟩
     rw [hz] at h4 P2 hm
     have := P2.lt
     simp only [] at this
     rcases h4 with h4 | ⟨h4, _, h5⟩
     ·simp only [] at h4; omega
     ·simp only [] at h4; subst h4; exact h5 (nocross _ hm)
    ·omega
   obtain ⟨h1, h2⟩ := first_of hc
   rw [nxt_end hlast h1]
   rcases h2 with h2 | h2
   ·rw [← h2]; exact posQ_zero _ _
   ·exfalso
    rcases h2 with h2 | ⟨_, _, h2⟩
    ·simp only [] at h2; omega
    ·exact h2 rfl
/-- One comes to a corner that lies strictly within along the side ahead of it. -/
theorem prev_side (h3 : 3 ≤ l.length) {k : Nat} (hk : k < (cutT A B C l).length) (hf : fvQ A B C (posQ l (nxt A B C l k)) < 0) :
  ∃ i t, i < l.length ∧ t ≤ 1 ∧ posQ l (cutT A B C l)[k] = wayQ (cor l i) (cor l (i + 1)) t ∧ posQ l (nxt A B C l k) = cor l (i + 1) := by
 -- the place behind, and its side
 have hm : nxt A B C l k ∈ cutT A B C l := by
  by_cases h : k + 1 < (cutT A B C l).length
  ·rw [nxt_in h]; exact List.getElem_mem _
  ·rw [nxt_end (by omega) (by omega)]; exact List.getElem_mem _
 have P := mem_cutT hm
 obtain ⟨j, r, hq⟩ : ∃ j r, nxt A B C l k = (j, r) := ⟨_, _, rfl⟩
 rw [hq] at P hf
 have hr : r = 0 := by
  by_cases h : r = 0
  ·exact h
  ·have := (fv_pos_le P).2 h; rw [this] at hf; exact absurd hf Rat.lt_irrefl
 subst hr
 rw [posQ_zero] at hf
 have hj := P.lt
 simp only [] at hj
 obtain ⟨i, hi, hij⟩ : ∃ i, i < l.length ∧ cor l (i + 1) = cor l j ∧ (i + 1 = j ∨ (j = 0 ∧ i + 1 = l.length)) := by
  by_cases h0 : j = 0
  ·subst h0
   refine ⟨l.length - 1, by omega, ?_, .inr ⟨rfl, by omega⟩⟩
   rw [show l.length - 1 + 1 = 0 + l.length by omega]; exact cor_add l 0
  ·exact ⟨j - 1, by omega, by rw [show j - 1 + 1 = j by omega], .inl (by omega)⟩
 obtain ⟨ej, hij⟩ := hij
 -- the place ahead: where side i is crossed, or its beginning
 obtain ⟨t, hc, ht1, hno⟩ : ∃ t, (i, t) ∈ cutT A B C l ∧ t ≤ 1 ∧ (t = 0 → ∀ s, (i, s) ∈ cutT A B C l → s = 0) := by
  by_cases hx : fvQ A B C (cor l i) * fvQ A B C (cor l (i + 1)) < 0
  ·have ht := ratio_in hx
   exact ⟨_, mem_cross hi hx, Rat.le_of_lt ht.2, fun h0 => absurd h0 (by intro e; rw [e] at ht; exact Rat.lt_irrefl ht.1)⟩
  ·have hf1 : fvQ A B C (cor l i) ≤ 0 := by
    by_cases h : fvQ A B C (cor l i) ≤ 0
    ·exact h
    ·rw [ej] at hx
     have := Rat.mul_pos (show 0 < fvQ A B C (cor l i) by grind) (show 0 < -fvQ A B C (cor l j) by grind)
     exact absurd (show fvQ A B C (cor l i) * fvQ A B C (cor l j) < 0 by grind) hx
   exact ⟨0, mem_keep hi hf1, by decide, fun _ s hs => by
    by_cases h : s = 0
    ·exact h
    ·exact absurd ((mem_cutT hs).cross h).1 hx⟩
 have hk2 : (cutT A B C l)[k] ∈ cutT A B C l := List.getElem_mem _
 have key : (cutT A B C l)[k] = (i, t) := by
  by_cases hl : k + 1 < (cutT A B C l).length
  ·have h4 := sorted_at (A := A) (B := B) (C := C) (l := l) (Nat.lt_succ_self k) hl
   rw [nxt_in hl] at hq
   rw [hq] at h4
   have hij2 : i + 1 = j := by
    rcases hij with h | ⟨h, _⟩
    ·exact h
    ·exfalso; subst h
     rcases h4 with h4 | ⟨_, _, h5⟩
     ·simp only [] at h4; omega
     ·exact h5 rfl
   rcases prev_of hl hc (by rw [hq]; exact .inl (by simp only []; omega)) with h | h
   ·exact h.symm
   ·exfalso
    obtain ⟨zi, zt, hz⟩ : ∃ zi zt, (cutT A B C l)[k] = (zi, zt) := ⟨_, _, rfl⟩
    rw [hz] at h h4 hk2
    rcases h4 with h4 | ⟨_, _, h5⟩
    ·rcases h with h | ⟨h, h6, h7⟩
     ·simp only [] at h h4; omega
     ·simp only [] at h h6 h7; subst h; exact h7 (hno h6 _ hk2)
    ·exact h5 rfl
  ·have hl' : k + 1 = (cutT A B C l).length := by omega
   rw [nxt_end hl' (by omega)] at hq
   have hij2 : j = 0 ∧ i + 1 = l.length := by
    rcases hij with h | h
    ·exfalso
     obtain ⟨_, h2⟩ := first_of hc
     rw [hq] at h2
     rcases h2 with h2 | h2 | ⟨h2, _, _⟩
     ·simp at h2; omega
     ·simp only [] at h2; omega
     ·simp only [] at h2; omega
    ·exact h
   rcases last_of hl' hc with h | h
   ·exact h.symm
   ·exfalso
    obtain ⟨zi, zt, hz⟩ : ∃ zi zt, (cutT A B C l)[k] = (zi, zt) := ⟨_, _, rfl⟩
    rw [hz] at h hk2
    have := (mem_cutT hk2).lt
    simp only [] at this
    rcases h with h | ⟨h, h6, h7⟩
    ·simp only [] at h; omega
    ·simp only [] at h h6 h7; subst h; exact h7 (hno h6 _ hk2)
 refine ⟨i, t, hi, ht1, by rw [key]; rfl, ?_⟩
 rw [hq, posQ_zero, ej]
theorem cor_cut {k : Nat} (hk : k < (cutT A B C l).length) : cor (cutQ A B C l) k = posQ l (cutT A B C l)[k] := by
 have : k < (cutQ A B C l).length := by unfold cutQ; rwa [List.length_map]
 rw [cor_get this]; simp [cutQ]
theorem cor_cut' {k : Nat} (hk : k < (cutT A B C l).length) : cor (cutQ A B C l) (k + 1) = posQ l (nxt A B C l k) := by
 have hl : (cutQ A B C l).length = (cutT A B C l).length := by unfold cutQ; rw [List.length_map]
 by_cases h : k + 1 < (cutT A B C l).length
 ·rw [cor_cut h, nxt_in h]
 ·have e : k + 1 = 0 + (cutQ A B C l).length := by omega
  rw [e, cor_add, cor_cut (by omega), nxt_end (by omega) (by omega)]
end
end Go.Proofs.YtecnnpkpgbbfkaaGreat
/- A polygon that is cut: three corners or more; the areas of both halves. Over no program; written ahead of layer 8's code. -/
namespace Go.Proofs.YtecnnpkpgbbfkaaGreat
open Go.MagM
theorem three_mem {α : Type} {L : List α} {a b c : α} (ha : a ∈ L) (hb : b ∈ L) (hc : c ∈ L) (h1 : a ≠ b) (h2 : a ≠ c) (h3 : b ≠ c) : 3 ≤ L.length := by
 obtain ⟨i, hi, rfl⟩ := List.mem_iff_getElem.1 ha
 obtain ⟨j, hj, rfl⟩ := List.mem_iff_getElem.1 hb
 obtain ⟨k, hk, rfl⟩ := List.mem_iff_getElem.1 hc
 have e1 : i ≠ j := fun e => h1 (by subst e; rfl)
 have e2 : i ≠ k := fun e => h2 (by subst e; rfl)
 have e3 : j ≠ k := fun e => h3 (by subst e; rfl)
 omega
theorem mod_next {n i : Nat} (_h3 : 3 ≤ n) (hi : i < n) : ((i + 1 < n ∧ (i + 1) % n = i + 1) ∨ (i + 1 = n ∧ (i + 1) % n = 0)) := by
 by_cases h : i + 1 < n
 ·exact .inl ⟨h, Nat.mod_eq_of_lt h⟩
 ·have e : i + 1 = n := by omega
  exact .inr ⟨e, by rw [e, Nat.mod_self]⟩
/-- If a corner lies strictly within, three corners or more are left. -/
theorem cut_three {A B C : Rat} {l : List (Rat × Rat)} (h3 : 3 ≤ l.length) {i : Nat} (hi : i < l.length) (hf : fvQ A B C (cor l i) < 0) : 3 ≤ (cutQ A B C l).length := by
 unfold cutQ
 rw [List.length_map]
 have m0 := mem_keep (A := A) (B := B) (C := C) hi (Rat.le_of_lt hf)
 -- behind it
 obtain ⟨p, hp, hp1⟩ : ∃ p, p ∈ cutT A B C l ∧ ((p.1 = i ∧ p.2 ≠ 0) ∨ (p.1 = (i + 1) % l.length ∧ p.2 = 0)) := by
  by_cases hx : fvQ A B C (cor l i) * fvQ A B C (cor l (i + 1)) < 0
  ·have := (ratio_in hx).1
   exact ⟨_, mem_cross hi hx, .inl ⟨rfl, by simp only []; grind⟩⟩
  ·have hf1 : fvQ A B C (cor l ((i + 1) % l.length)) ≤ 0 := by
    rw [cor_mod]
    by_cases h : fvQ A B C (cor l (i + 1)) ≤ 0
    ·exact h
    ·have := Rat.mul_pos (show 0 < -fvQ A B C (cor l i) by grind) (show 0 < fvQ A B C (cor l (i + 1)) by grind)
     exact absurd (show fvQ A B C (cor l i) * fvQ A B C (cor l (i + 1)) < 0 by grind) hx
   exact ⟨_, mem_keep (Nat.mod_lt _ (by omega)) hf1, .inr ⟨rfl, rfl⟩⟩
 -- ahead of it
 obtain ⟨j, hj, hji⟩ : ∃ j, j < l.length ∧ (j + 1) % l.length = i := by
  by_cases h0 : i = 0
  ·subst h0; exact ⟨l.length - 1, by omega, by rw [show l.length - 1 + 1 = l.length by omega, Nat.mod_self]⟩
  ·exact ⟨i - 1, by omega, by rw [show i - 1 + 1 = i by omega, Nat.mod_eq_of_lt hi]⟩
 obtain ⟨q, hq, hq1⟩ : ∃ q, q ∈ cutT A B C l ∧ q.1 = j := by
  have ej : cor l (j + 1) = cor l i := by rw [← cor_mod, hji]
  by_cases hx : fvQ A B C (cor l j) * fvQ A B C (cor l (j + 1)) < 0
  ·exact ⟨_, mem_cross hj hx, rfl⟩
  ·have hf1 : fvQ A B C (cor l j) ≤ 0 := by
    by_cases h : fvQ A B C (cor l j) ≤ 0
    ·exact h
    ·rw [ej] at hx
     have := Rat.mul_pos (show 0 < fvQ A B C (cor l j) by grind) (show 0 < -fvQ A B C (cor l i) by grind)
     exact absurd (show fvQ A B C (cor l j) * fvQ A B C (cor l i) < 0 by grind) hx
   exact ⟨_, mem_keep hj hf1, rfl⟩
 have n1 := mod_next h3 hi
 have n2 := mod_next h3 hj
 refine three_mem m0 hp hq (fun e => ?_) (fun e => ?_) (fun e => ?_)
 ·subst e
  rcases hp1 with ⟨_, h⟩ | ⟨h, _⟩
  ·exact h rfl
  ·simp only [] at h; omega
 ·subst e; simp only [] at hq1; omega
 ·subst e
  rcases hp1 with ⟨h, _⟩ | ⟨h, _⟩ <;> omega
section
variable (A B C : Rat)
end
section
variable {A B C : Rat}
end
end Go.Proofs.YtecnnpkpgbbfkaaGreat
/- A polygon that is cut, none if there is no area; cut by several half-planes. Over no program; written ahead of layer 8's code. -/
namespace Go.Proofs.YtecnnpkpgbbfkaaGreat
open Go.MagM
def clipQ (A B C : Rat) (l : List (Rat × Rat)) : List (Rat × Rat) := if ∃ i, i < l.length ∧ fvQ A B C (cor l i) < 0 then cutQ A B C l else []
theorem clipQ_pos {A B C : Rat} {l : List (Rat × Rat)} (h : ∃ i, i < l.length ∧ fvQ A B C (cor l i) < 0) : clipQ A B C l = cutQ A B C l := if_pos h
theorem clipQ_neg {A B C : Rat} {l : List (Rat × Rat)} (h : ¬ ∃ i, i < l.length ∧ fvQ A B C (cor l i) < 0) : clipQ A B C l = [] := if_neg h
theorem clip_conv {A B C : Rat} {l : List (Rat × Rat)} (hl : Conv l) (h : clipQ A B C l ≠ []) : Conv (clipQ A B C l) := by
 by_cases k : ∃ i, i < l.length ∧ fvQ A B C (cor l i) < 0
 ·rw [clipQ_pos k]
  obtain ⟨i, hi, hf⟩ := k
  exact (hl.tri.cut hl.1).conv (cut_three hl.1 hi hf)
 ·exact absurd (clipQ_neg k) h
def Half0 (h : Rat × Rat × Rat) : Prop := h.1 ≠ 0 ∨ h.2.1 ≠ 0
theorem clip_nil {A B C : Rat} : clipQ A B C [] = [] := clipQ_neg (fun ⟨_, h, _⟩ => by simp at h)
end Go.Proofs.YtecnnpkpgbbfkaaGreat
/- The cells of points fill a polygon. Over no program; written ahead of layer 8's code. -/
namespace Go.Proofs.YtecnnpkpgbbfkaaGreat
open Go.MagM
def Conv0 (l : List (Rat × Rat)) : Prop := l = [] ∨ Conv l
end Go.Proofs.YtecnnpkpgbbfkaaGreat
/- What is left of a polygon that is cut, as a list; how many corners it has; on which lines its sides lie. Over no program. -/
namespace Go.Proofs.YtecnnpkpgbbfkaaGreat
open Go.MagM
theorem cor_mem {l : List (Rat × Rat)} {i : Nat} (h : 0 < l.length) : cor l i ∈ l := by
 have hi := Nat.mod_lt i h
 rw [← cor_mod, cor_get hi]
 exact List.getElem_mem hi
theorem cut_le {A B C : Rat} {l : List (Rat × Rat)} {p : Rat × Rat} (h : p ∈ cutQ A B C l) : fvQ A B C p ≤ 0 := by
 unfold cutQ at h
 obtain ⟨q, hq, rfl⟩ := List.mem_map.1 h
 exact (fv_pos_le (mem_cutT hq)).1
theorem clip_conv0 {A B C : Rat} {l : List (Rat × Rat)} (hl : Conv0 l) : Conv0 (clipQ A B C l) := by
 rcases hl with rfl | hl
 ·rw [clip_nil]; exact .inl rfl
 ·by_cases h : clipQ A B C l = []
  ·exact .inl h
  ·exact .inr (clip_conv hl h)
/-- Each side lies on the line of one of these half-planes. -/
def OnH (h : Rat × Rat × Rat) (p : Rat × Rat) : Prop := fvQ h.1 h.2.1 h.2.2 p = 0
def Lined (S : Rat × Rat × Rat → Prop) (l : List (Rat × Rat)) : Prop := ∀ i, i < l.length → ∃ h, S h ∧ Half0 h ∧ OnH h (cor l i) ∧ OnH h (cor l (i + 1))
theorem on_way {h : Rat × Rat × Rat} {a b : Rat × Rat} {t : Rat} (ha : OnH h a) (hb : OnH h b) : OnH h (wayQ a b t) := by
 unfold OnH at *; rw [fv_way, ha, hb]; grind
theorem Lined.cut {S : Rat × Rat × Rat → Prop} {A B C : Rat} {l : List (Rat × Rat)} (hS : S (A, B, C)) (hAB : A ≠ 0 ∨ B ≠ 0) (hl : Lined S l) (hc : Conv l) : Lined S (cutQ A B C l) := by
 intro k hk
 have hk' : k < (cutT A B C l).length := by unfold cutQ at hk; rwa [List.length_map] at hk
 rw [cor_cut hk', cor_cut' hk']
 by_cases h1 : fvQ A B C (posQ l (cutT A B C l)[k]) < 0
 ·obtain ⟨i, t, hi, _, e1, e2⟩ := next_side hc.1 hk' h1
  obtain ⟨h, a, b, c, d⟩ := hl i hi
  exact ⟨h, a, b, by rw [e1]; exact c, by rw [e2]; exact on_way c d⟩
 ·by_cases h2 : fvQ A B C (posQ l (nxt A B C l k)) < 0
  ·obtain ⟨i, t, hi, _, e1, e2⟩ := prev_side hc.1 hk' h2
   obtain ⟨h, a, b, c, d⟩ := hl i hi
   exact ⟨h, a, b, by rw [e1]; exact on_way c d, by rw [e2]; exact d⟩
  ·have m1 := cut_le (A := A) (B := B) (C := C) (l := l) (p := posQ l (cutT A B C l)[k]) (by unfold cutQ; exact List.mem_map_of_mem (List.getElem_mem _))
   have m2 : fvQ A B C (posQ l (nxt A B C l k)) ≤ 0 := by
    rw [← cor_cut' hk']; exact cut_le (cor_mem (by omega))
   exact ⟨(A, B, C), hS, hAB, Rat.le_antisymm m1 (by grind), Rat.le_antisymm m2 (by grind)⟩
theorem Lined.nil (S : Rat × Rat × Rat → Prop) : Lined S [] := fun i hi => by simp at hi
theorem Lined.clip {S : Rat × Rat × Rat → Prop} {A B C : Rat} {l : List (Rat × Rat)} (hS : S (A, B, C)) (hAB : A ≠ 0 ∨ B ≠ 0) (hl : Lined S l) (hc : Conv0 l) : Lined S (clipQ A B C l) := by
 rcases hc with rfl | hc
 ·rw [clip_nil]; exact Lined.nil S
 ·by_cases k : ∃ i, i < l.length ∧ fvQ A B C (cor l i) < 0
  ·rw [clipQ_pos k]; exact hl.cut hS hAB hc
  ·rw [clipQ_neg k]; exact Lined.nil S
/-- A corner is where two of the lines meet. -/
theorem two_lines {S : Rat × Rat × Rat → Prop} {l : List (Rat × Rat)} (hl : Lined S l) (hc : Conv l) {i : Nat} (hi : i < l.length) :
  ∃ h k, S h ∧ S k ∧ OnH h (cor l i) ∧ OnH k (cor l i) ∧ h.1 * k.2.1 - k.1 * h.2.1 ≠ 0 := by
 obtain ⟨j, hj, hji⟩ : ∃ j, j < l.length ∧ (j + 1) % l.length = i := by
  by_cases h0 : i = 0
  ·subst h0; exact ⟨l.length - 1, by omega, by rw [show l.length - 1 + 1 = l.length by omega, Nat.mod_self]⟩
  ·exact ⟨i - 1, by omega, by rw [show i - 1 + 1 = i by omega, Nat.mod_eq_of_lt hi]⟩
 have ej : cor l (j + 1) = cor l i := by rw [← cor_mod, hji]
 obtain ⟨h, h1, h2, h3, h4⟩ := hl j hj
 obtain ⟨k, k1, k2, k3, k4⟩ := hl i hi
 rw [ej] at h4
 refine ⟨h, k, h1, k1, h4, k3, fun hd => ?_⟩
 have hx : 0 < crossQ (cor l i) (cor l (i + 1)) (cor l j) := by
  have n1 := mod_next hc.1 hi
  have n2 := mod_next hc.1 hj
  have := hc.1
  exact hc.2 i j hi hj (by omega) (by omega)
 generalize cor l i = p at *
 generalize cor l (i + 1) = q at *
 generalize cor l j = r at *
 obtain ⟨A, B, C⟩ := h
 obtain ⟨A', B', C'⟩ := k
 unfold OnH fvQ at *
 simp only [] at *
 have hz : crossQ p q r = 0 := by
  unfold crossQ
  -- the ways p - r, q - p are both upright on (A, B) and (A', B')
  have e1 : A * (r.1 - p.1) + B * (r.2 - p.2) = 0 := by grind
  have e2 : A' * (q.1 - p.1) + B' * (q.2 - p.2) = 0 := by grind
  generalize r.1 - p.1 = u at *
  generalize r.2 - p.2 = v at *
  generalize q.1 - p.1 = x at *
  generalize q.2 - p.2 = y at *
  rcases h2 with hA | hB
  ·rcases k2 with hA' | hB'
   ·have : A * A' * (x * v - y * u) = 0 := by grind
    rcases Rat.mul_eq_zero.1 this with z | z
    ·rcases Rat.mul_eq_zero.1 z with z | z
     ·exact absurd z hA
     ·exact absurd z hA'
    ·exact z
   ·have : A * B' * (x * v - y * u) = 0 := by grind
    rcases Rat.mul_eq_zero.1 this with z | z
    ·rcases Rat.mul_eq_zero.1 z with z | z
     ·exact absurd z hA
     ·exact absurd z hB'
    ·exact z
  ·rcases k2 with hA' | hB'
   ·have : B * A' * (x * v - y * u) = 0 := by grind
    rcases Rat.mul_eq_zero.1 this with z | z
    ·rcases Rat.mul_eq_zero.1 z with z | z
     ·exact absurd z hB
     ·exact absurd z hA'
    ·exact z
   ·have : B * B' * (x * v - y * u) = 0 := by grind
    rcases Rat.mul_eq_zero.1 this with z | z
    ·rcases Rat.mul_eq_zero.1 z with z | z
     ·exact absurd z hB
     ·exact absurd z hB'
    ·exact z
 rw [hz] at hx
 exact absurd hx (by decide)
end Go.Proofs.YtecnnpkpgbbfkaaGreat
/- How large the corners' numbers are: each is where two lines of small numbers meet. -/
namespace Go.MagM
/-- A right number of which both parts are small has few words. -/
theorem RF.short {w : World} {v : Value} {L K : Nat} {q : Rat} (h : RF w v L q) (hn : q.num.natAbs < B ^ K) (hd : q.den < B ^ K) : RF w v K q := by
 obtain ⟨m, ao, n, c, bo, k, d, h1, ⟨m', vm, N, h2, h3, h4, h5⟩, h6⟩ := h
 refine ⟨m, ao, n, c, bo, k, d, h1, ⟨m', vm, N, h2, h3.short ?_, h4, h5⟩, h6.short hd⟩
 have : q.num.natAbs = N := by rw [h4]; unfold sgn; cases m' <;> simp
 omega
/-- q times D is N: its parts are no greater. -/
theorem parts_le {q : Rat} {N D : Int} (hD : D ≠ 0) (h : q * (D : Rat) = (N : Rat)) : q.num.natAbs ≤ N.natAbs ∧ q.den ≤ D.natAbs := by
 have e : q = Rat.divInt N D := by
  have h2 : q = (N : Rat) / (D : Rat) := by
   have hD' : (D : Rat) ≠ 0 := fun e => hD (by exact_mod_cast e)
   rw [← h, Rat.div_def, Rat.mul_assoc, Rat.mul_inv_cancel _ hD', Rat.mul_one]
  rw [h2, Rat.divInt_eq_div]
 have k : q.num * D = N * (q.den : Int) := by
  have := (Rat.divInt_eq_divInt_iff (n₁ := q.num) (n₂ := N) (d₁ := (q.den : Int)) (d₂ := D) (by have := q.den_nz; omega) hD).1 (by rw [← e, Rat.num_divInt_den])
  exact this
 have kn := congrArg Int.natAbs k
 rw [Int.natAbs_mul, Int.natAbs_mul, Int.natAbs_natCast] at kn
 have hc := q.reduced
 have d1 : q.den ∣ D.natAbs := hc.symm.dvd_of_dvd_mul_left ⟨N.natAbs, by rw [kn, Nat.mul_comm]⟩
 have d2 : q.num.natAbs ∣ N.natAbs := hc.dvd_of_dvd_mul_right ⟨D.natAbs, kn.symm⟩
 refine ⟨?_, Nat.le_of_dvd (by omega) d1⟩
 by_cases hN : N = 0
 ·subst hN
  rw [Int.natAbs_zero, Nat.zero_mul] at kn
  rcases Nat.mul_eq_zero.1 kn with h0 | h0
  ·rw [h0]; exact Nat.zero_le _
  ·exact absurd (Int.natAbs_eq_zero.1 h0) hD
 ·exact Nat.le_of_dvd (by omega) d2
end Go.MagM
namespace Go.Proofs.YtecnnpkpgbbfkaaGreat
open Go.MagM
/-- Both parts have one word. -/
def Sml (q : Rat) : Prop := q.num.natAbs < B ∧ q.den < B
def SmlH (h : Rat × Rat × Rat) : Prop := Sml h.1 ∧ Sml h.2.1 ∧ Sml h.2.2
theorem num_den (q : Rat) : q * ((q.den : Int) : Rat) = (q.num : Rat) := by
 have h2 : ((q.den : Int) : Rat) ≠ 0 := fun e => q.den_nz (by exact_mod_cast e)
 have h1 : q = (q.num : Rat) / ((q.den : Int) : Rat) := by
  rw [← Rat.divInt_eq_div, Rat.num_divInt_den]
 have h4 := Rat.div_mul_cancel (a := (q.num : Rat)) h2
 rwa [← h1] at h4
/-- The same half-plane, by whole numbers. -/
theorem whole_half {A B' C : Rat} (hA : Sml A) (hB : Sml B') (hC : Sml C) : ∃ a b c d : Int, d ≠ 0 ∧ A * (d : Rat) = (a : Rat) ∧ B' * (d : Rat) = (b : Rat) ∧ C * (d : Rat) = (c : Rat) ∧ a.natAbs < B ^ 3 ∧ b.natAbs < B ^ 3 ∧ c.natAbs < B ^ 3 := by
 have p : ∀ x y z : Nat, x < B → y < B → z < B → x * y * z < B ^ 3 := by
  intro x y z hx hy hz
  have h1 : x * y ≤ B * B := Nat.mul_le_mul (by omega) (by omega)
  have hB0 : 0 < B := by omega
  calc x * y * z ≤ B * B * z := Nat.mul_le_mul_right _ h1
   _ < B * B * B := Nat.mul_lt_mul_of_pos_left hz (Nat.mul_pos hB0 hB0)
   _ = B ^ 3 := by rw [Nat.pow_succ, Nat.pow_succ, Nat.pow_one]
 refine ⟨A.num * (B'.den : Int) * (C.den : Int), B'.num * (A.den : Int) * (C.den : Int), C.num * (A.den : Int) * (B'.den : Int), (A.den : Int) * (B'.den : Int) * (C.den : Int), ?_, ?_, ?_, ?_, ?_, ?_, ?_⟩
 ·have h1 := A.den_nz; have h2 := B'.den_nz; have h3 := C.den_nz
  exact Int.mul_ne_zero (Int.mul_ne_zero (by omega) (by omega)) (by omega)
 ·have := num_den A
  rw [Rat.intCast_mul, Rat.intCast_mul, Rat.intCast_mul, Rat.intCast_mul, ← this]; grind
 ·have := num_den B'
  rw [Rat.intCast_mul, Rat.intCast_mul, Rat.intCast_mul, Rat.intCast_mul, ← this]; grind
 ·have := num_den C
  rw [Rat.intCast_mul, Rat.intCast_mul, Rat.intCast_mul, Rat.intCast_mul, ← this]; grind
 ·rw [Int.natAbs_mul, Int.natAbs_mul, Int.natAbs_natCast, Int.natAbs_natCast]; exact p _ _ _ hA.1 hB.2 hC.2
 ·rw [Int.natAbs_mul, Int.natAbs_mul, Int.natAbs_natCast, Int.natAbs_natCast]; exact p _ _ _ hB.1 hA.2 hC.2
 ·rw [Int.natAbs_mul, Int.natAbs_mul, Int.natAbs_natCast, Int.natAbs_natCast]; exact p _ _ _ hC.1 hA.2 hB.2
theorem det_small {a b c d : Int} {M : Nat} (ha : a.natAbs < M) (hb : b.natAbs < M) (hc : c.natAbs < M) (hd : d.natAbs < M) : (a * b - c * d).natAbs ≤ 2 * (M * M) := by
 have h1 : (a * b).natAbs ≤ M * M := by rw [Int.natAbs_mul]; exact Nat.mul_le_mul (by omega) (by omega)
 have h2 : (c * d).natAbs ≤ M * M := by rw [Int.natAbs_mul]; exact Nat.mul_le_mul (by omega) (by omega)
 omega
theorem seven : 2 * (B ^ 3 * B ^ 3) < B ^ 7 := by
 have hB : 2 < B := by unfold B; omega
 have h : 0 < B ^ 6 := Nat.pow_pos (by omega)
 have e : B ^ 7 = B * B ^ 6 := by rw [Nat.pow_succ, Nat.mul_comm]
 rw [← Nat.pow_add, e]
 exact Nat.mul_lt_mul_of_pos_right hB h
theorem meet_small {A B1 C A' B' C' x y : Rat} (h : SmlH (A, B1, C)) (h' : SmlH (A', B', C')) (hd : A * B' - A' * B1 ≠ 0) (e1 : A * x + B1 * y - C = 0) (e2 : A' * x + B' * y - C' = 0) :
  (x.num.natAbs < B ^ 7 ∧ x.den < B ^ 7) ∧ (y.num.natAbs < B ^ 7 ∧ y.den < B ^ 7) := by
 obtain ⟨a, b, c, d, hd0, ha, hb, hc, sa, sb, sc⟩ := whole_half h.1 h.2.1 h.2.2
 obtain ⟨a', b', c', d', hd0', ha', hb', hc', sa', sb', sc'⟩ := whole_half h'.1 h'.2.1 h'.2.2
 simp only [] at ha hb hc ha' hb' hc'
 have hD : a * b' - a' * b ≠ 0 := by
  intro e
  have e3 : ((a * b' - a' * b : Int) : Rat) = ((0 : Int) : Rat) := by rw [e]
  rw [Rat.intCast_sub, Rat.intCast_mul, Rat.intCast_mul, ← ha, ← hb, ← ha', ← hb'] at e3
  have e4 : (d : Rat) * (d' : Rat) * (A * B' - A' * B1) = 0 := by
   have z : ((0 : Int) : Rat) = 0 := rfl
   rw [z] at e3; grind
  have n1 : (d : Rat) ≠ 0 := fun e => hd0 (by exact_mod_cast e)
  have n2 : (d' : Rat) ≠ 0 := fun e => hd0' (by exact_mod_cast e)
  rcases Rat.mul_eq_zero.1 e4 with z | z
  ·rcases Rat.mul_eq_zero.1 z with z | z
   ·exact n1 z
   ·exact n2 z
  ·exact hd z
 have kx : x * ((a * b' - a' * b : Int) : Rat) = ((c * b' - c' * b : Int) : Rat) := by
  rw [Rat.intCast_sub, Rat.intCast_mul, Rat.intCast_mul, Rat.intCast_sub, Rat.intCast_mul, Rat.intCast_mul, ← ha, ← hb, ← ha', ← hb', ← hc, ← hc']; grind
 have ky : y * ((a * b' - a' * b : Int) : Rat) = ((a * c' - a' * c : Int) : Rat) := by
  rw [Rat.intCast_sub, Rat.intCast_mul, Rat.intCast_mul, Rat.intCast_sub, Rat.intCast_mul, Rat.intCast_mul, ← ha, ← hb, ← ha', ← hb', ← hc, ← hc']; grind
 have s := seven
 have px := parts_le hD kx
 have py := parts_le hD ky
 have l1 := det_small sa sb' sa' sb
 have l2 := det_small sc sb' sc' sb
 have l3 := det_small sa sc' sa' sc
 omega
/-- A polygon that comes of small half-planes. -/
def Poly (l : List (Rat × Rat)) : Prop := Conv0 l ∧ Lined SmlH l
theorem Poly.small {l : List (Rat × Rat)} (h : Poly l) {i : Nat} {x y : Rat} (hi : l[i]? = some (x, y)) : (x.num.natAbs < B ^ 7 ∧ x.den < B ^ 7) ∧ (y.num.natAbs < B ^ 7 ∧ y.den < B ^ 7) := by
 obtain ⟨hlt, he⟩ := List.getElem?_eq_some_iff.1 hi
 rcases h.1 with rfl | hc
 ·simp at hlt
 ·obtain ⟨k, k', s, s', e1, e2, hd⟩ := two_lines h.2 hc hlt
  rw [cor_get hlt, he] at e1 e2
  exact meet_small s s' hd e1 e2
theorem Poly.clip {A B C : Rat} {l : List (Rat × Rat)} (h : Poly l) (hAB : A ≠ 0 ∨ B ≠ 0) (hs : SmlH (A, B, C)) : Poly (clipQ A B C l) := ⟨clip_conv0 h.1, h.2.clip hs hAB h.1⟩
theorem Poly.nil : Poly [] := ⟨.inl rfl, Lined.nil _⟩
end Go.Proofs.YtecnnpkpgbbfkaaGreat
/- Going round a convex polygon its sides begin to rise once. Over no program. -/
namespace Go.Proofs.YtecnnpkpgbbfkaaGreat
open Go.MagM
/-- A side that doesn't rise, then one that does. -/
def riseQ (l : List (Rat × Rat)) (i : Nat) : Prop := (cor l (i + 1)).2 ≤ (cor l i).2 ∧ (cor l (i + 1)).2 < (cor l (i + 2)).2
instance (l : List (Rat × Rat)) (i : Nat) : Decidable (riseQ l i) := by unfold riseQ; infer_instance
def cntR (l : List (Rat × Rat)) : Nat → Nat
  | 0 => 0
  | k + 1 => cntR l k + if riseQ l k then 1 else 0
end Go.Proofs.YtecnnpkpgbbfkaaGreat
/- A slice of Spots as it comes in. Over no program. -/
namespace Go.MagM
open Go.RowKit
/-- The slice at ao reads as points, right or not. -/
def Raws (w : World) (ao : Option Addr) (l : List (Int × Nat × Int × Nat)) : Prop :=
 ∀ i X D X' D', l[i]? = some (X, D, X', D') → ∃ b o m so sn sc tp tn tc m' so' sn' sc' tp' tn' tc', ao = some ⟨b, o, none⟩ ∧ At6 w b (o + i * 6) (.bool m) (.slice so sn sc) (.slice tp tn tc) (.bool m') (.slice so' sn' sc') (.slice tp' tn' tc') ∧
  (∃ L, FD w (.agg #[.bool m, .slice so sn sc, .slice tp tn tc]) L X D) ∧ (∃ L, FD w (.agg #[.bool m', .slice so' sn' sc', .slice tp' tn' tc']) L X' D')
theorem Raws.below {w w' : World} {ao : Option Addr} {l : List (Int × Nat × Int × Nat)} (h : Raws w ao l) (hb : Below w.heap.size w w') : Raws w' ao l := by
 intro i X D X' D' hi
 obtain ⟨b, o, m, so, sn, sc, tp, tn, tc, m', so', sn', sc', tp', tn', tc', h0, h1, ⟨L, h2⟩, ⟨L', h3⟩⟩ := h i X D X' D' hi
 exact ⟨b, o, m, so, sn, sc, tp, tn, tc, m', so', sn', sc', tp', tn', tc', h0, h1.below hb, ⟨L, h2.below hb⟩, ⟨L', h3.below hb⟩⟩
theorem At6.far {w : World} {b o : Nat} {v0 v1 v2 v3 v4 v5 : Value} (h : At6 w b o v0 v1 v2 v3 v4 v5) {g : Nat} (hne : b ≠ g) (i : Nat) (x : Value) : At6 (w.setCell ⟨g, i, none⟩ x) b o v0 v1 v2 v3 v4 v5 := by
 have e : ∀ j, (w.setCell ⟨g, i, none⟩ x).cell? ⟨b, j, none⟩ = w.cell? ⟨b, j, none⟩ := fun j => World.cell?_setCell_other _ _ _ _ (by intro k; injection k with h1; first | exact hne h1 | exact hne h1.symm)
 exact ⟨(e _).trans h.c0, (e _).trans h.c1, (e _).trans h.c2, (e _).trans h.c3, (e _).trans h.c4, (e _).trans h.c5⟩
theorem At6.farFrom {b o : Nat} {v0 v1 v2 v3 v4 v5 : Value} {g' : Nat} (hne : b ≠ g') : ∀ (xs : List Value) (i : Nat) {w : World}, At6 w b o v0 v1 v2 v3 v4 v5 → At6 (Go.MagM.setAll w g' i xs) b o v0 v1 v2 v3 v4 v5
 | [], _, _, h => h
 | x :: xs, i, _, h => At6.farFrom hne xs (i + 1) (h.far hne i x)
theorem At6.farAll {w : World} {b o : Nat} {v0 v1 v2 v3 v4 v5 : Value} (h : At6 w b o v0 v1 v2 v3 v4 v5) {g' : Nat} (hne : b ≠ g') (xs : List Value) : At6 (Go.MagM.setAll w g' 0 xs) b o v0 v1 v2 v3 v4 v5 := At6.farFrom hne xs 0 h
theorem RowN.farFrom {base : Nat} {e : TypeId} {size : Nat} {v : Value} {n : Nat} {xs : List Value} {g' : Nat} (hne : ∀ k, v.ownBlock = some k → k ≠ g') : ∀ (ys : List Value) (i : Nat) {w : World}, RowN w base e size v n xs → RowN (Go.MagM.setAll w g' i ys) base e size v n xs
 | [], _, _, h => h
 | y :: ys, i, w, h => RowN.farFrom hne ys (i + 1) (h.block fun k hk _ => Below.heap_setCell w ⟨g', i, none⟩ y k (by simpa using hne k hk))
end Go.MagM
