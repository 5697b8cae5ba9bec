/-
 DERIVED: THE SHELF's CONTRACTS AT THIS DUMP, IN PLAIN WORDS (tools/lay-plain.mjs out of 'TryzSortL.lean', which tools/lay-shelf.mjs wrote): THE SAME DECLARATIONS UNDER THE SAME NAMES: 'import', 'namespace', 'open', 'def', 'theorem' AND NOTHING ELSE: no command of the shelf's: FOR A HAND-IN. Each laying: the table of numbers ('.._ren') and one theorem, a field a fact of the dump's own or the kernel's comparison; each contract: ONE APPLICATION.
-/
import Derived.Shelf.SlGeneric
import Derived.Shelf.SortM.Plain
import Derived.Shelf.SortM.SortNone
import Derived.Ground.SlgmProg
import Derived.Test.YtnabdopnlinklaaGreatProg
import Derived.Test.YtnabdopnlinklaaGreatPartr
import Derived.Test.YtnabdopnlinklaaGreatParth
namespace Go.Proofs
open Go.Shelf
def Tryz.mSort_ren : Go.Shelf.Ren := ⟨fun | 5 => 53 | 8 => 110 | 7 => 109 | 19 => 158 | 20 => 159 | 10 => 149 | 11 => 150 | 12 => 151 | 13 => 152 | 14 => 153 | 15 => 154 | 16 => 155 | 17 => 156 | 18 => 157 | 30 => 177 | 31 => 178 | 32 => 179 | 33 => 180 | 34 => 181 | 35 => 121 | 40 => 198 | n => n, fun | 23 => 43 | 25 => 3 | 3 => 3 | 32 => 71 | 22 => 43 | 0 => 0 | 44 => 22 | 46 => 116 | 4 => 4 | 36 => 207 | 35 => 206 | 41 => 211 | 5 => 5 | 9 => 9 | 53 => 228 | 57 => 232 | 63 => 246 | 64 => 32 | n => n, fun | n => n⟩
theorem Tryz.mSort : Go.Proofs.SlLaysM.n5 Tryz.prog Tryz.mSort_ren := {
 mixed := by kernel_rfl
 f5 := ⟨Tryz.f53.name, by decide, Tryz.func53.trans (congrArg some (by kernel_rfl))⟩
 f7 := ⟨Tryz.f109.name, by decide, Tryz.func109.trans (congrArg some (by kernel_rfl))⟩
 f8 := Tryz.func110.trans (congrArg some (by kernel_rfl))
 f10 := ⟨Tryz.f149.name, by decide, Tryz.func149.trans (congrArg some (by kernel_rfl))⟩
 f11 := ⟨Tryz.f150.name, by decide, Tryz.func150.trans (congrArg some (by kernel_rfl))⟩
 f12 := ⟨Tryz.f151.name, by decide, Tryz.func151.trans (congrArg some (by kernel_rfl))⟩
 f13 := ⟨Tryz.f152.name, by decide, Tryz.func152.trans (congrArg some (by kernel_rfl))⟩
 f14 := ⟨Tryz.f153.name, by decide, Tryz.func153.trans (congrArg some (by kernel_rfl))⟩
 f15 := ⟨Tryz.f154.name, by decide, Tryz.func154.trans (congrArg some (by kernel_rfl))⟩
 f16 := ⟨Tryz.f155.name, by decide, Tryz.func155.trans (congrArg some (by kernel_rfl))⟩
 f17 := ⟨Tryz.f156.name, by decide, Tryz.func156.trans (congrArg some (by kernel_rfl))⟩
 f18 := ⟨Tryz.f157.name, by decide, Tryz.func157.trans (congrArg some (by kernel_rfl))⟩
 f19 := Tryz.func158.trans (congrArg some (by kernel_rfl))
 f20 := Tryz.func159.trans (congrArg some (by kernel_rfl))
 f30 := ⟨Tryz.f177.name, by decide, Tryz.func177.trans (congrArg some (by kernel_rfl))⟩
 f31 := Tryz.func178.trans (congrArg some (by kernel_rfl))
 f32 := Tryz.func179.trans (congrArg some (by kernel_rfl))
 f33 := ⟨Tryz.f180.name, by decide, Tryz.func180.trans (congrArg some (by kernel_rfl))⟩
 f34 := ⟨Tryz.f181.name, by decide, Tryz.func181.trans (congrArg some (by kernel_rfl))⟩
 f35 := ⟨Tryz.f121.name, by decide, Tryz.func121.trans (congrArg some (by kernel_rfl))⟩
 f40 := ⟨Tryz.f198.name, by decide, Tryz.func198.trans (congrArg some (by kernel_rfl))⟩
 t0 := Tryz.underlying0
 a0 := Tryz.isAgg0
 z0 := Tryz.sizeOf0
 v0 := Tryz.zeroValue0
 t3 := Tryz.underlying3
 a3 := Tryz.isAgg3
 z3 := Tryz.sizeOf3
 v3 := Tryz.zeroValue3
 t4 := Tryz.underlying4
 a4 := Tryz.isAgg4
 z4 := Tryz.sizeOf4
 v4 := Tryz.zeroValue4
 t5 := Tryz.underlying5
 a5 := Tryz.isAgg5
 z5 := Tryz.sizeOf5
 v5 := Tryz.zeroValue5
 t9 := Tryz.underlying9
 a9 := Tryz.isAgg9
 z9 := Tryz.sizeOf9
 v9 := Tryz.zeroValue9
 t22 := Tryz.underlying43
 a22 := Tryz.isAgg43
 z22 := Tryz.sizeOf43
 v22 := Tryz.zeroValue43
 t23 := Tryz.underlying43
 a23 := Tryz.isAgg43
 z23 := Tryz.sizeOf43
 v23 := Tryz.zeroValue43
 t25 := Tryz.underlying3
 a25 := Tryz.isAgg3
 z25 := Tryz.sizeOf3
 v25 := Tryz.zeroValue3
 t32 := Tryz.underlying71
 a32 := Tryz.isAgg71
 z32 := Tryz.sizeOf71
 v32 := Tryz.zeroValue71
 t35 := Tryz.underlying206
 a35 := Tryz.isAgg206
 z35 := Tryz.sizeOf206
 v35 := Tryz.zeroValue206
 t36 := Tryz.underlying207
 a36 := Tryz.isAgg207
 z36 := Tryz.sizeOf207
 v36 := Tryz.zeroValue207
 t41 := Tryz.underlying211
 a41 := Tryz.isAgg211
 z41 := Tryz.sizeOf211
 v41 := Tryz.zeroValue211
 t44 := Tryz.underlying22
 a44 := Tryz.isAgg22
 z44 := Tryz.sizeOf22
 v44 := Tryz.zeroValue22
 t46 := Tryz.underlying116
 a46 := Tryz.isAgg116
 z46 := Tryz.sizeOf116
 v46 := Tryz.zeroValue116
 t53 := Tryz.underlying228
 a53 := Tryz.isAgg228
 z53 := Tryz.sizeOf228
 v53 := Tryz.zeroValue228
 t57 := Tryz.underlying232
 a57 := Tryz.isAgg232
 z57 := Tryz.sizeOf232
 v57 := Tryz.zeroValue232
 t63 := Tryz.underlying246
 a63 := Tryz.isAgg246
 z63 := Tryz.sizeOf246
 v63 := Tryz.zeroValue246
 t64 := Tryz.underlying32
 a64 := Tryz.isAgg32
 z64 := Tryz.sizeOf32
 v64 := Tryz.zeroValue32 }
end Go.Proofs
/- slices.Sort of a row of ints. -/
namespace Go.MagM
open Go.RowKit
/-- Ints, the least first. -/
def sortL (l : List Int) : List Int := l.mergeSort fun x y => decide (x ≤ y)
theorem sortL_perm (l : List Int) : (sortL l).Perm l := List.mergeSort_perm l _
theorem sortL_len (l : List Int) : (sortL l).length = l.length := (sortL_perm l).length_eq
theorem put_cells (cur : Array Value) (L : List Int) (hl : L.length ≤ cur.size) : ((Sort.putCells (Value.int .i64) 0 L.toArray cur).toList.take L.length) = intCells L := by
 refine List.ext_getElem? fun j => ?_
 rw [List.getElem?_take]
 unfold intCells Sort.putCells
 rw [List.getElem?_map]
 split
 ·rename_i hj
  rw [List.getElem?_eq_getElem hj, Array.getElem?_toList, Array.getElem?_mapIdx, Array.getElem?_eq_getElem (by omega)]
  simp [hj]
 ·rename_i hj
  rw [List.getElem?_eq_none (by omega)]; rfl
theorem put_size (cur : Array Value) (L : List Int) : (Sort.putCells (Value.int .i64) 0 L.toArray cur).size = cur.size := by unfold Sort.putCells; simp
theorem put_noWord (cur : Array Value) (L : List Int) (h : ∀ u ∈ cur.toList, NoWord u) : ∀ u ∈ (Sort.putCells (Value.int .i64) 0 L.toArray cur).toList, NoWord u := by
 intro u hu
 obtain ⟨j, hj⟩ := List.mem_iff_getElem?.1 hu
 rw [Array.getElem?_toList] at hj
 unfold Sort.putCells at hj
 rw [Array.getElem?_mapIdx] at hj
 cases hc : cur[j]? with
 | none => rw [hc] at hj; cases hj
 | some x =>
  rw [hc] at hj
  simp only [Option.map_some, Option.some.injEq] at hj
  split at hj
  ·subst hj; exact NoWord.int _
  ·subst hj
   exact h x (List.mem_of_getElem? (i := j) (by rw [Array.getElem?_toList]; exact hc))
end Go.MagM
namespace Go.Proofs.YtnabdopnlinklaaGreat
open Go.RowKit Go.MagM Go.Maps
/-- A row of ints is put in order; but for its block all is as it was. -/
theorem cvSort_any {lo g c : Nat} {ts : List Int} (w : World) (h : RowN w lo 3 1 (.slice (some ⟨g, 0, none⟩) ts.length c) ts.length (intCells ts)) (hl : ts.length ≤ 1000000) :
  Calls Tryz.prog 53 #[.slice (some ⟨g, 0, none⟩) ts.length c] w fun e w' => e = .returned (.tuple #[]) ∧ RowN w' lo 3 1 (.slice (some ⟨g, 0, none⟩) ts.length c) (sortL ts).length (intCells (sortL ts)) ∧ (∀ k, k < w.heap.size → k ≠ g → w'.heap[k]? = w.heap[k]?) ∧ Below lo w w' ∧ w.heap.size ≤ w'.heap.size := by
 have hown := owns_box h.own
 have hH : Sort.Holds (Value.int .i64) w g 0 ts.toArray := by
  intro j hj
  have hj' : j < ts.length := by simpa using hj
  have hc : (intCells ts)[j]? = some (.int .i64 ts[j]) := by unfold intCells; rw [List.getElem?_map, List.getElem?_eq_getElem hj']; rfl
  rw [Nat.zero_add, getElem!_pos ts.toArray j hj]
  exact ⟨hown.c _ _ hc, hown.f _ _ hc⟩
 obtain ⟨g', cap, cur, e1, hlo, hh, hnc, hcm, hcs, htk, hnw⟩ : ∃ g' cap cur, Value.slice (some ⟨g, 0, none⟩) ts.length c = .slice (some ⟨g', 0, none⟩) ts.length cap ∧ lo ≤ g' ∧ w.heap[g']? = some (.cells cur 3 (0, 0)) ∧ ts.length ≤ cap ∧ cap ≤ maxLen ∧ cur.size = cap * 1 ∧ cur.toList.take (ts.length * 1) = intCells ts ∧ ∀ u ∈ cur.toList, NoWord u := by
  rcases h.2 with ⟨h1, -⟩ | h1
  ·cases h1
  ·exact h1
 simp only [Value.slice.injEq, Option.some.injEq, Addr.mk.injEq, and_true, true_and] at e1
 obtain ⟨rfl, rfl⟩ := e1
 have hlt : g < w.heap.size := (Array.getElem?_eq_some_iff.1 hh).1
 have hcon := AnyM.slices_Sort_int Tryz.mSort g 0 c ts w hH hlt (by omega)
 change Calls Tryz.prog 53 _ _ _ at hcon
 refine hcon.mono ?_
 rintro e w' ⟨rfl, n, os, rfl⟩
 obtain ⟨L, hL⟩ : ∃ L, ts.mergeSort (fun x y => decide (x ≤ y)) = L := ⟨_, rfl⟩
 have hLe : sortL ts = L := hL
 have hLl : L.length = ts.length := by rw [← hLe]; exact sortL_len ts
 rw [hL, hLe]
 have hsz : (Sort.putRow (Value.int .i64) (Sort.ahead w n) g 0 L.toArray).heap.size = w.heap.size := by unfold Sort.putRow Sort.mapBlock Sort.ahead; simp
 have hk : ∀ k, k < w.heap.size → k ≠ g → (Sort.grow (Sort.putRow (Value.int .i64) (Sort.ahead w n) g 0 L.toArray) os).heap[k]? = w.heap[k]? := by
  intro k hk hne
  show ((Sort.putRow (Value.int .i64) (Sort.ahead w n) g 0 L.toArray).heap ++ os)[k]? = _
  rw [Array.getElem?_append_left (by omega)]
  unfold Sort.putRow Sort.mapBlock Sort.ahead
  simp only [Array.getElem?_modify]
  rw [if_neg (fun e => hne e.symm)]
 have hg : (Sort.grow (Sort.putRow (Value.int .i64) (Sort.ahead w n) g 0 L.toArray) os).heap[g]? = some (.cells (Sort.putCells (Value.int .i64) 0 L.toArray cur) 3 (0, 0)) := by
  show ((Sort.putRow (Value.int .i64) (Sort.ahead w n) g 0 L.toArray).heap ++ os)[g]? = _
  rw [Array.getElem?_append_left (by omega)]
  unfold Sort.putRow Sort.mapBlock Sort.ahead
  simp only [Array.getElem?_modify]
  rw [if_pos trivial, hh]; rfl
 refine ⟨rfl, ⟨by rw [intCells_len, Nat.mul_one], .inr ⟨g, c, _, by rw [hLl], hlo, hg, by omega, hcm, by rw [put_size]; exact hcs, ?_, put_noWord cur L hnw⟩⟩, hk, ⟨rfl, rfl, rfl, ?_, fun k hk2 => hk k (by omega) (by omega)⟩, ?_⟩
 ·rw [Nat.mul_one]; exact put_cells cur L (by omega)
 ·show w.heap.size ≤ ((Sort.putRow (Value.int .i64) (Sort.ahead w n) g 0 L.toArray).heap ++ os).size
  rw [Array.size_append]; omega
 ·show w.heap.size ≤ ((Sort.putRow (Value.int .i64) (Sort.ahead w n) g 0 L.toArray).heap ++ os).size
  rw [Array.size_append]; omega
end Go.Proofs.YtnabdopnlinklaaGreat
/- cavity: is a rim cut? -/
namespace Go.Proofs.YtnabdopnlinklaaGreat
open Go.RowKit Go.MagM Go.Maps
def valS (s : SideM) : Value := .agg #[.int .i64 s.a, .int .i64 s.b, .int .i64 s.u, .int .i64 s.i, .bool s.f]
/-- Is what lies behind a side in conflict, and hidden by a fault? -/
def cutQ2 (P : List (Int × Int)) (S : List TriM) (p : Int × Int) (s : SideM) : Bool := s.f && confT P S p s.u
set_option maxRecDepth 100000 in
set_option maxHeartbeats 8000000 in
theorem cvDig1_any {mb pb pc xm xp : Nat} {ta : Option Addr} {tc : Nat} {P : List (Int × Int)} {S : List TriM} (s : SideM) (p0 p1 : Int) (w : World) (h : MeshR w mb pb pc ta tc P S) (hP : InPs P) (hp : InP p0 ∧ InP p1)
  (hm : w.cell? ⟨xm, 0, none⟩ = some (.pointer (some ⟨mb, 0, none⟩))) (hx : Box w xp [.int .i64 p0, .int .i64 p1]) (hs : ∃ u : Nat, s.u = (u : Int) ∧ u < S.length) :
  Calls Tryz.prog 52 #[valS s, .pointer (some ⟨xm, 0, none⟩), .pointer (some ⟨xp, 0, none⟩)] w fun e w' => e = .returned (.bool (cutQ2 P S (p0, p1) s)) ∧ Below w.heap.size w w' := by
 obtain ⟨sa, sb, su, si, sf⟩ := s
 obtain ⟨u, hu, hul⟩ := hs
 simp only [] at hu
 subst hu
 obtain ⟨U, hU⟩ : ∃ U, S[u]? = some U := ⟨_, List.getElem?_eq_getElem hul⟩
 have hcf : confT P S (p0, p1) (u : Int) = conflictM P U (p0, p1) := by unfold confT; rw [Int.toNat_natCast, hU]
 unfold valS cutQ2
 simp only []
 rw [hcf]
 obtain ⟨w1, hw1, ps, hb1, hs1⟩ := new_box w _ rfl [.int .i64 sa, .int .i64 sb, .int .i64 (u : Int), .int .i64 si, .bool sf] 50
 obtain ⟨q, hq⟩ : ∃ q, conflictM P U (p0, p1) = q := ⟨_, rfl⟩
 have HC := Lib.hid (cvConflict_any u U p0 p1 w1 (h.below hb1) hP hp hU)
 rw [hq] at HC
 rw [hq]
 have z2 := ps.c 2 _ rfl; have z4 := ps.c 4 _ rfl
 have m1 := (hb1.cell (World.block_lt_of_cell? _ _ hm)).trans hm
 have x1 := hx.below hb1
 have x10 := x1.c 0 _ rfl; have x11 := x1.c 1 _ rfl
 have HB1 := Lib.hid hb1
 clear h hP hp hm hx hul hU hcf hq ps hb1 hs1 x1
 cases sf
 ·go_enter Tryz.func52, Tryz.ntmps52
  go_wp2
  go_ret
  exact ⟨rfl, HB1.out⟩
 ·go_enter Tryz.func52, Tryz.ntmps52
  go_wp2_with fail
  refine HC.out.mono ?_
  rintro e w2 ⟨rfl, hb2⟩
  have HB2 := Lib.hid (HB1.out.trans (hb2.mono HB1.out.size))
  clear hb2
  go_wp2
  go_ret
  exact ⟨rfl, HB2.out⟩
set_option maxRecDepth 100000 in
set_option maxHeartbeats 8000000 in
theorem cvIndexF_any {base xm xp : Nat} (l : List SideM) (v : Value) (q : SideM → Bool) (w : World) (hrow : RowN w base 50 5 v l.length (sideCells l)) (hl : l.length ≤ 1000000)
  (hf : ∀ W : World, Below w.heap.size w W → ∀ s ∈ l, Calls Tryz.prog 52 #[valS s, .pointer (some ⟨xm, 0, none⟩), .pointer (some ⟨xp, 0, none⟩)] W fun e w' => e = .returned (.bool (q s)) ∧ Below W.heap.size W w') :
  Calls Tryz.prog 108 #[v, .func (.func 52) #[] #[.pointer (some ⟨xm, 0, none⟩), .pointer (some ⟨xp, 0, none⟩)]] w fun e w' => ∃ r : Int, e = .returned (.int .i64 r) ∧ decide (0 ≤ r) = l.any q ∧ Below w.heap.size w w' := by
 obtain ⟨len, hlen⟩ : ∃ len, l.length = len := ⟨_, rfl⟩
 rw [hlen] at hrow hl
 obtain ⟨ao, c, rfl⟩ : ∃ ao c, v = .slice ao len c := by
  rcases hrow.2 with ⟨h1, h2⟩ | ⟨g, cap, cur, h1, -⟩
  ·exact ⟨_, _, by rw [h1, h2]⟩
  ·exact ⟨_, _, h1⟩
 have HROW := Lib.hid hrow; have HLEN := Lib.hid hlen; have HF := Lib.hid hf
 clear hrow hlen hf
 go_enter Tryz.func108, Tryz.ntmps108
 go_wp2
 go_loopw [8] (fun iv wr => ∃ n : Nat, n ≤ len ∧ iv = .int .i64 (n : Int) ∧ (∀ s ∈ l.take n, q s = false) ∧ Below w.heap.size w wr) (fun iv _ => len - (intOf iv).toNat)
 case atStart => exact ⟨0, Nat.zero_le _, rfl, by simp, Below.refl _ _⟩
 case round =>
  obtain ⟨n, hn, rfl, hno, hb⟩ := hrel
  by_cases hlt : n < len
  ·have e1 : decide ((n : Int) < (len : Int)) = true := decide_eq_true (by omega)
   have e2 : decide (n < len) = true := decide_eq_true hlt
   obtain ⟨g, rfl⟩ : ∃ g, ao = some ⟨g, 0, none⟩ := by
    rcases HROW.out.2 with ⟨h1, h2⟩ | ⟨g, cap, cur, h1, -⟩
    ·omega
    ·exact ⟨g, by injection h1⟩
   obtain ⟨s, hs⟩ : ∃ s, l[n]? = some s := ⟨_, List.getElem?_eq_getElem (by have := HLEN.out; omega)⟩
   have hsl := List.mem_of_getElem? hs
   have hr := HROW.out.below hb
   have c0 : wr.cell? ⟨g, n * 5, none⟩ = some (.int .i64 s.a) := hr.cells rfl _ _ (by rw [show n * 5 = n * 5 + 0 by omega, sideCells_get l n 0 s hs (by omega)]; rfl)
   have c1 : wr.cell? ⟨g, n * 5 + 1, none⟩ = some (.int .i64 s.b) := hr.cells rfl _ _ (by rw [sideCells_get l n 1 s hs (by omega)]; rfl)
   have c2 : wr.cell? ⟨g, n * 5 + 2, none⟩ = some (.int .i64 s.u) := hr.cells rfl _ _ (by rw [sideCells_get l n 2 s hs (by omega)]; rfl)
   have c3 : wr.cell? ⟨g, n * 5 + 3, none⟩ = some (.int .i64 s.i) := hr.cells rfl _ _ (by rw [sideCells_get l n 3 s hs (by omega)]; rfl)
   have c4 : wr.cell? ⟨g, n * 5 + 4, none⟩ = some (.bool s.f) := hr.cells rfl _ _ (by rw [sideCells_get l n 4 s hs (by omega)]; rfl)
   have HC := Lib.hid (HF.out wr hb s hsl)
   have i1 : (0 : Int) ≤ (n : Int) := by omega
   have i2 : (n : Int) < (len : Int) := by omega
   obtain ⟨qs, hqs⟩ : ∃ z, q s = z := ⟨_, rfl⟩
   rw [hqs] at HC
   obtain ⟨sa, sb, su, si, sf⟩ := s
   unfold valS at HC
   simp only [] at c0 c1 c2 c3 c4 HC
   have HNO := Lib.hid hno; have HB := Lib.hid hb; have HS := Lib.hid hs; have HQ := Lib.hid hqs; have HSL := Lib.hid hsl
   clear hno hb hr hs hqs hsl
   go_wp2_with fail
   refine HC.out.mono ?_
   rintro e w2 ⟨rfl, hb2⟩
   have HB2 := Lib.hid (HB.out.trans (hb2.mono HB.out.size))
   clear hb2 c0 c1 c2 c3 c4
   cases qs
   ·go_wp2
    refine ⟨⟨n + 1, by omega, by go_num, fun s' hs' => ?_, HB2.out⟩, by simp [intOf]; omega⟩
    rw [List.take_add_one, HS.out] at hs'
    rcases List.mem_append.1 hs' with h1 | h1
    ·exact HNO.out s' h1
    ·simp at h1; subst h1; exact HQ.out
   ·go_wp2
    go_ret
    refine ⟨_, rfl, ?_, HB2.out⟩
    rw [List.any_eq_true.2 ⟨_, HSL.out, HQ.out⟩]; exact decide_eq_true (by omega)
  ·obtain rfl : n = len := by omega
   have e1 : decide ((n : Int) < (n : Int)) = false := decide_eq_false (by omega)
   have HNO := Lib.hid hno; have HB := Lib.hid hb
   clear hno hb
   go_wp2
   go_ret
   refine ⟨_, rfl, ?_, HB.out⟩
   have h1 := HNO.out
   rw [← HLEN.out, List.take_length] at h1
   rw [List.any_eq_false.2 (fun s hs => by rw [h1 s hs]; simp)]; decide
set_option maxRecDepth 100000 in
set_option maxHeartbeats 8000000 in
theorem cvContains_any {base xm xp : Nat} (l : List SideM) (v : Value) (q : SideM → Bool) (w : World) (hrow : RowN w base 50 5 v l.length (sideCells l)) (hl : l.length ≤ 1000000)
  (hf : ∀ W : World, Below w.heap.size w W → ∀ s ∈ l, Calls Tryz.prog 52 #[valS s, .pointer (some ⟨xm, 0, none⟩), .pointer (some ⟨xp, 0, none⟩)] W fun e w' => e = .returned (.bool (q s)) ∧ Below W.heap.size W w') :
  Calls Tryz.prog 51 #[v, .func (.func 52) #[] #[.pointer (some ⟨xm, 0, none⟩), .pointer (some ⟨xp, 0, none⟩)]] w fun e w' => e = .returned (.bool (l.any q)) ∧ Below w.heap.size w w' := by
 have HC := Lib.hid (cvIndexF_any l v q w hrow hl hf)
 obtain ⟨r0, hr0⟩ : ∃ z, l.any q = z := ⟨_, rfl⟩
 rw [hr0] at HC ⊢
 clear hrow hl hf hr0
 go_enter Tryz.func51, Tryz.ntmps51
 go_wp2_with fail
 refine HC.out.mono ?_
 rintro e w2 ⟨r, rfl, hr, hb2⟩
 have HB2 := Lib.hid hb2
 clear hb2
 go_wp2
 go_ret
 exact ⟨rfl, HB2.out⟩
end Go.Proofs.YtnabdopnlinklaaGreat
/- cavity's spread. Written by tools/cav5.py. -/
namespace Go.Proofs.YtnabdopnlinklaaGreat
open Go.RowKit Go.MagM Go.Maps
theorem cvSet_size (g : Nat) : ∀ (xs : List Value) (i : Nat) (w : World), (setAll w g i xs).heap.size = w.heap.size
 | [], _, _ => rfl
 | x :: xs, i, w => by rw [setAll, cvSet_size g xs]; simp
theorem takeM_grows (P : List (Int × Int)) (T : TriM) (t : Int) (ts : List Int) : ts.length ≤ (takeM P T t ts).length := by
 unfold takeM; split
 ·rw [List.length_append]; omega
 ·exact Nat.le_refl _
theorem step_grows (P : List (Int × Int)) (S : List TriM) (p : Int × Int) (T : TriM) (i : Nat) (ts : List Int) : ts.length ≤ (stepM P S p T i ts).length := by
 unfold stepM; split
 ·unfold takeS; split
  ·exact takeM_grows _ _ _ _
  ·exact Nat.le_refl _
 ·exact Nat.le_refl _
theorem inner_grows (P : List (Int × Int)) (S : List TriM) (p : Int × Int) (T : TriM) (ts : List Int) : ∀ n, ts.length ≤ (innerM P S p T n ts).length
 | 0 => Nat.le_refl _
 | n + 1 => Nat.le_trans (inner_grows P S p T ts n) (step_grows _ _ _ _ _ _)
set_option maxRecDepth 100000 in
set_option maxHeartbeats 16000000 in
theorem cvSpread_any {w0 : World} {mb pb pc hb b : Nat} {ta : Option Addr} {tc : Nat} {P : List (Int × Int)} {S : List TriM} {v : Value} {ts : List Int} (p0 p1 : Int) (w : World) (h : MeshR w0 mb pb pc ta tc P S) (hP : InPs P) (hp : InP p0 ∧ InP p1) (hN : Nexts S) (hB : Below w0.heap.size w0 w) (hH : HoleR w w0.heap.size hb mb b v ts) (hin : InS S ts) (hmx : S.length < 1000000) :
  Calls Tryz.prog 49 #[.pointer (some ⟨hb, 0, none⟩), .agg #[.int .i64 p0, .int .i64 p1]] w fun e w' => e = .returned (.tuple #[]) ∧ (∃ v', HoleR w' w0.heap.size hb mb b v' (spreadM P S (p0, p1) S.length 0 ts)) ∧ Below w0.heap.size w0 w' := by
 obtain ⟨w1, hw1, pp, hb1, hs1⟩ := new_box w _ rfl [.int .i64 p0, .int .i64 p1] 24
 have H := Lib.hid h; have HP := Lib.hid hP; have HPP := Lib.hid hp; have HN := Lib.hid hN; have HMX := Lib.hid hmx
 have HB1 := Lib.hid (hB.trans (hb1.mono hB.size)); have HH1 := Lib.hid (hH.below hb1); have HIN := Lib.hid hin; have PP1 := Lib.hid pp
 have HAP := Lib.hid (show w.heap.size < w1.heap.size ∧ w.heap.size ≠ hb ∧ w.heap.size ≠ b ∧ v.ownBlock ≠ some w.heap.size from ⟨by omega, by have := hH.box.lt; omega, by have := hH.map.lt; omega, fun e => by have := (hH.row.lt _ e).2; omega⟩)
 obtain ⟨R, hR⟩ : ∃ R, spreadM P S (p0, p1) S.length 0 ts = R := ⟨_, rfl⟩
 rw [hR]
 have HR := Lib.hid hR
 obtain ⟨len, hlen⟩ : ∃ len, S.length = len := ⟨_, rfl⟩
 have HLEN := Lib.hid hlen
 rw [hlen] at HR
 clear h hP hp hN hB hH hin hmx hb1 hs1 pp hR hlen
 go_enter Tryz.func49, Tryz.ntmps49
 go_wp2
 clear hw1
 go_loopw [4] (fun iv wr => ∃ (n : Nat) (us : List Int) (vv : Value), iv = .int .i64 (n : Int) ∧ n ≤ us.length ∧ HoleR wr w0.heap.size hb mb b vv us ∧ InS S us ∧ spreadM P S (p0, p1) (len - n) n us = R ∧ KeepH w1 wr hb b v vv ∧ Below w0.heap.size w0 wr) (fun iv _ => len - (intOf iv).toNat)
 case atStart => exact ⟨0, ts, v, rfl, Nat.zero_le _, HH1.out, HIN.out, HR.out, KeepH.of_below (Below.refl _ _), HB1.out⟩
 case round =>
  obtain ⟨n, us, vv, rfl, hn, hh, hin, hr, hk, hbw⟩ := hrel
  obtain ⟨ul, hul⟩ : ∃ ul, us.length = ul := ⟨_, rfl⟩
  obtain ⟨ao, c, rfl⟩ : ∃ ao c, vv = .slice ao ul c := by
   rcases hh.row.2 with ⟨h1, h2⟩ | ⟨g, cap, cur, h1, -⟩
   ·exact ⟨_, _, by rw [h1, ← hul, h2]⟩
   ·exact ⟨_, _, by rw [← hul]; exact h1⟩
  have hle := hin.le
  rw [HLEN.out] at hle
  have b1 := hh.box.c1
  by_cases hlt : n < ul
  ·have e1 : decide ((n : Int) < (ul : Int)) = true := decide_eq_true (by omega)
   have e2 : decide (n < ul) = true := decide_eq_true hlt
   obtain ⟨g, rfl⟩ : ∃ g, ao = some ⟨g, 0, none⟩ := by
    rcases hh.row.2 with ⟨h1, h2⟩ | ⟨g, cap, cur, h1, -⟩
    ·omega
    ·exact ⟨g, by injection h1⟩
   obtain ⟨z, hz⟩ : ∃ z, us[n]? = some z := ⟨_, List.getElem?_eq_getElem (by omega)⟩
   obtain ⟨t, rfl, htl⟩ := hin.is z (List.mem_of_getElem? hz)
   obtain ⟨T, hT⟩ : ∃ T, S[t]? = some T := ⟨_, List.getElem?_eq_getElem htl⟩
   have hcell : wr.cell? ⟨g, n, none⟩ = some (.int .i64 (t : Int)) := hh.row.cells rfl n _ (by unfold intCells; rw [List.getElem?_map, hz]; rfl)
   have hsh := H.out.short.2
   rw [HLEN.out] at htl hsh
   obtain ⟨v0, v1, v2, n0, n1, n2, f0, f1, f2⟩ := T
   have SS : ∀ w', Below wr.heap.size wr w' → ∃ tb, ta = some ⟨tb, 0, none⟩ ∧ w'.cell? ⟨hb, 0, none⟩ = some (.pointer (some ⟨mb, 0, none⟩)) ∧ w'.cell? ⟨hb, 1, none⟩ = some (.slice (some ⟨g, 0, none⟩) ul c) ∧ w'.cell? ⟨mb, 1, none⟩ = some (.slice (some ⟨tb, 0, none⟩) len tc) ∧ w'.cell? ⟨g, n, none⟩ = some (.int .i64 (t : Int)) ∧ w'.cell? ⟨tb, t * 9, none⟩ = some (.int .i64 v0) ∧ w'.cell? ⟨tb, t * 9 + 1, none⟩ = some (.int .i64 v1) ∧ w'.cell? ⟨tb, t * 9 + 2, none⟩ = some (.int .i64 v2) ∧ w'.cell? ⟨tb, t * 9 + 3, none⟩ = some (.int .i64 n0) ∧ w'.cell? ⟨tb, t * 9 + 4, none⟩ = some (.int .i64 n1) ∧ w'.cell? ⟨tb, t * 9 + 5, none⟩ = some (.int .i64 n2) ∧ w'.cell? ⟨tb, t * 9 + 6, none⟩ = some (.bool f0) ∧ w'.cell? ⟨tb, t * 9 + 7, none⟩ = some (.bool f1) ∧ w'.cell? ⟨tb, t * 9 + 8, none⟩ = some (.bool f2) := by
    intro w' hw
    have q1 := H.out.below (hbw.trans (hw.mono hbw.size))
    have k1 := q1.box.c1
    rw [HLEN.out] at k1
    obtain ⟨tb, hta, -, k2, k3, k4, k5, k6, k7, k8, k9, k10⟩ := q1.tris.get hT
    subst hta
    exact ⟨tb, rfl, (hh.box.below hw).c0, (hh.box.below hw).c1, k1, (hw.cell (World.block_lt_of_cell? _ _ hcell)).trans hcell, k2, k3, k4, k5, k6, k7, k8, k9, k10⟩
   obtain ⟨tb, hta, -⟩ := SS wr (Below.refl _ _)
   subst hta
   have SS := fun (w' : World) (hw : Below wr.heap.size wr w') => (by obtain ⟨tb', e, hs⟩ := SS w' hw; cases e; exact hs : w'.cell? ⟨hb, 0, none⟩ = some (.pointer (some ⟨mb, 0, none⟩)) ∧ w'.cell? ⟨hb, 1, none⟩ = some (.slice (some ⟨g, 0, none⟩) ul c) ∧ w'.cell? ⟨mb, 1, none⟩ = some (.slice (some ⟨tb, 0, none⟩) len tc) ∧ w'.cell? ⟨g, n, none⟩ = some (.int .i64 (t : Int)) ∧ w'.cell? ⟨tb, t * 9, none⟩ = some (.int .i64 v0) ∧ w'.cell? ⟨tb, t * 9 + 1, none⟩ = some (.int .i64 v1) ∧ w'.cell? ⟨tb, t * 9 + 2, none⟩ = some (.int .i64 v2) ∧ w'.cell? ⟨tb, t * 9 + 3, none⟩ = some (.int .i64 n0) ∧ w'.cell? ⟨tb, t * 9 + 4, none⟩ = some (.int .i64 n1) ∧ w'.cell? ⟨tb, t * 9 + 5, none⟩ = some (.int .i64 n2) ∧ w'.cell? ⟨tb, t * 9 + 6, none⟩ = some (.bool f0) ∧ w'.cell? ⟨tb, t * 9 + 7, none⟩ = some (.bool f1) ∧ w'.cell? ⟨tb, t * 9 + 8, none⟩ = some (.bool f2))
   have i1 : (0 : Int) ≤ (n : Int) := by omega
   have i2 : (n : Int) < (ul : Int) := by omega
   have i3 : (0 : Int) ≤ (t : Int) := by omega
   have i4 : (t : Int) < (len : Int) := by omega
   have HHH := Lib.hid hh; have HI := Lib.hid hin; have HRR := Lib.hid hr; have HK := Lib.hid hk; have HBW := Lib.hid hbw; have HZ := Lib.hid hz; have HT := Lib.hid hT; have HUL := Lib.hid hul
   have SSH := Lib.hid SS
   clear hh hin hr hk hbw hz hT hul hcell SS
   go_wp2
   obtain ⟨wd, hwd⟩ : ∃ wd, wr.drew = wd := ⟨_, rfl⟩
   have hBd : Below wr.heap.size wr wd := by rw [← hwd]; exact (Below.refl _ _).drew'
   have hsd : wr.heap.size = wd.heap.size := by rw [← hwd]; rfl
   obtain ⟨w4, hw4, pz, hb4, hs4⟩ := new_box wd _ rfl [.int .i64 0, .int .i64 0, .int .i64 0, .int .i64 0, .int .i64 0, .int .i64 0, .bool false, .bool false, .bool false] 37
   obtain ⟨w5, hw5⟩ : ∃ w5, setAll w4 wd.heap.size 0 [.int .i64 v0, .int .i64 v1, .int .i64 v2, .int .i64 n0, .int .i64 n1, .int .i64 n2, .bool f0, .bool f1, .bool f2] = w5 := ⟨_, rfl⟩
   have pt5 : Box w5 wd.heap.size [.int .i64 v0, .int .i64 v1, .int .i64 v2, .int .i64 n0, .int .i64 n1, .int .i64 n2, .bool f0, .bool f1, .bool f2] := by rw [← hw5]; exact pz.setAll _ rfl
   have hB4 : Below wr.heap.size wr w4 := hBd.trans (hb4.mono (by omega))
   have hB5 : Below wr.heap.size wr w5 := by rw [← hw5]; exact below_setAll hB4 (by omega) _
   have SB := SSH.out
   have hs5 : w5.heap.size = wd.heap.size + 1 := by rw [← hw5]; exact (cvSet_size _ _ 0 _).trans hs4
   have PT5 := Lib.hid pt5; have HB5 := Lib.hid hB5; have HSD := Lib.hid (And.intro hsd hs5)
   clear hsd hs4 hs5 pt5
   refine wp_region_noPanic ?_
   refine wp_region_held_drew (S := fun w' => w'.cell? ⟨hb, 0, none⟩ = some (.pointer (some ⟨mb, 0, none⟩)) ∧ w'.cell? ⟨hb, 1, none⟩ = some (.slice (some ⟨g, 0, none⟩) ul c) ∧ w'.cell? ⟨mb, 1, none⟩ = some (.slice (some ⟨tb, 0, none⟩) len tc) ∧ w'.cell? ⟨g, n, none⟩ = some (.int .i64 (t : Int)) ∧ w'.cell? ⟨tb, t * 9, none⟩ = some (.int .i64 v0) ∧ w'.cell? ⟨tb, t * 9 + 1, none⟩ = some (.int .i64 v1) ∧ w'.cell? ⟨tb, t * 9 + 2, none⟩ = some (.int .i64 v2) ∧ w'.cell? ⟨tb, t * 9 + 3, none⟩ = some (.int .i64 n0) ∧ w'.cell? ⟨tb, t * 9 + 4, none⟩ = some (.int .i64 n1) ∧ w'.cell? ⟨tb, t * 9 + 5, none⟩ = some (.int .i64 n2) ∧ w'.cell? ⟨tb, t * 9 + 6, none⟩ = some (.bool f0) ∧ w'.cell? ⟨tb, t * 9 + 7, none⟩ = some (.bool f1) ∧ w'.cell? ⟨tb, t * 9 + 8, none⟩ = some (.bool f2)) (by kernel_rfl) (SB _ (Below.refl _ _).drew') (fun hHeld => ?_)
   rw [hwd] at hHeld ⊢
   refine rU 0 _ _ ?_
   (try simp only [Act.put]);try simp only [sA,sZ,sS]
   refine rU 1 _ _ ?_
   (try simp only [Act.put]);try simp only [sA,sZ,sS]
   refine rU 2 _ _ ?_
   (try simp only [Act.put]);try simp only [sA,sZ,sS]
   refine rU 3 _ _ ?_
   (try simp only [Act.put]);try simp only [sA,sZ,sS]
   refine rU 4 _ _ ?_
   (try simp only [Act.put]);try simp only [sA,sZ,sS]
   refine rU 5 _ _ ?_
   (try simp only [Act.put]);try simp only [sA,sZ,sS]
   refine rU 6 _ _ ?_
   (try simp only [Act.put]);try simp only [sA,sZ,sS]
   refine rU 7 _ _ ?_
   (try simp only [Act.put]);try simp only [sA,sZ,sS]
   refine rU 8 _ _ ?_
   (try simp only [Act.put]);try simp only [sA,sZ,sS]
   refine rU 9 _ _ ?_
   (try simp only [Act.put]);try simp only [sA,sZ,sS]
   refine rU 10 _ _ ?_
   (try simp only [Act.put]);try simp only [sA,sZ,sS]
   refine rU 11 _ _ ?_
   (try simp only [Act.put]);try simp only [sA,sZ,sS]
   refine rU 12 _ _ ?_
   (try simp only [Act.put]);try simp only [sA,sZ,sS]
   refine rU 13 _ _ ?_
   (try simp only [Act.put]);try simp only [sA,sZ,sS]
   refine rU 14 _ _ ?_
   (try simp only [Act.put]);try simp only [sA,sZ,sS]
   refine rU 15 _ _ ?_
   (try simp only [Act.put]);try simp only [sA,sZ,sS]
   refine reg_call 16 ?_ (by kernel_rfl) ?_ (fun K hK => ?_);rotate_left 1
   ·simp only [gA,gS,gZ]; exact rfl
   go_simp
   try rw [hw4]
   refine hK.out _ _ (SB _ hB4) (fun hHeld => ?_)
   clear hK K
   (try simp only [Act.put]);try simp only [sA,sZ,sS]
   refine reg_call 17 ?_ (by kernel_rfl) ?_ (fun K hK => ?_);rotate_left 1
   ·simp only [gA,gS,gZ]; exact rfl
   refine wanted_go rfl ?_
   refine wp_store_box _ _ _ rfl [.int .i64 v0, .int .i64 v1, .int .i64 v2, .int .i64 n0, .int .i64 n1, .int .i64 n2, .bool f0, .bool f1, .bool f2] pz rfl rfl (by kernel_rfl) (by simp) rfl hw5 ?_
   refine hK.out _ _ (SB _ hB5) (fun hHeld => ?_)
   clear hK K
   (try simp only [Act.put]);try simp only [sA,sZ,sS]
   refine wpAnyH_done (by kernel_rfl) ?_ _
   refine NoPanic.normal ?_
   have d3 := PT5.out.c 3 _ rfl; have d4 := PT5.out.c 4 _ rfl; have d5 := PT5.out.c 5 _ rfl
   clear SB hw4 hw5 pz hB4 hB5 hBd hwd hb4 i1 i2 i3 i4
   obtain ⟨T, hTT⟩ : ∃ T : TriM, T = ⟨v0, v1, v2, n0, n1, n2, f0, f1, f2⟩ := ⟨_, rfl⟩
   have HTT := Lib.hid hTT
   rw [← hTT] at HT
   clear hTT
   go_wp2
   clear d3 d4 d5
   go_loopw [35] (fun iv wr => ∃ (i : Nat) (vi : Value), i ≤ 3 ∧ iv = .int .i64 (i : Int) ∧ HoleR wr w0.heap.size hb mb b vi (innerM P S (p0, p1) T i us) ∧ KeepH w5 wr hb b (.slice (some ⟨g, 0, none⟩) ul c) vi ∧ Below w0.heap.size w0 wr) (fun iv _ => 3 - (intOf iv).toNat)
   case atStart => exact ⟨0, _, Nat.zero_le _, rfl, HHH.out.below HB5.out, KeepH.of_below (Below.refl _ _), HBW.out.trans (HB5.out.mono HBW.out.size)⟩
   case round =>
    obtain ⟨i, vi, hi, rfl, hhi, hki, hbi⟩ := hrel
    have HHI := Lib.hid hhi; have HKI := Lib.hid hki; have HBI := Lib.hid hbi
    clear hhi hki hbi
    by_cases hi3 : i < 3
    ·have PTI := Lib.hid (show Box wr wd.heap.size [.int .i64 v0, .int .i64 v1, .int .i64 v2, .int .i64 n0, .int .i64 n1, .int .i64 n2, .bool f0, .bool f1, .bool f2] from by
      have hl := HHH.out.box.lt; have hm := HHH.out.map.lt; have hs := HSD.out
      exact _root_.Go.Proofs.YtnabdopnlinklaaGreat.Box.keepH PT5.out HKI.out (by omega) (by omega) (by omega) (fun e => by have := (HHH.out.row.lt _ e).2; omega))
     have PPI := Lib.hid (show Box wr w.heap.size [.int .i64 p0, .int .i64 p1] from
      _root_.Go.Proofs.YtnabdopnlinklaaGreat.Box.keepH PP1.out ((HK.out.trans (KeepH.of_below HB5.out)).trans HKI.out) HAP.out.1 HAP.out.2.1 HAP.out.2.2.1 HAP.out.2.2.2)
     obtain rfl | rfl | rfl : i = 0 ∨ i = 1 ∨ i = 2 := by omega
     ·obtain ⟨u, hu, hul⟩ := HN.out t T HT.out 0 (by omega)
      obtain ⟨U, hU⟩ : ∃ U, S[u]? = some U := ⟨_, List.getElem?_eq_getElem hul⟩
      rw [HTT.out] at hu
      obtain rfl : n0 = (u : Int) := hu
      have hnu : T.n 0 = (u : Int) := by rw [HTT.out]; rfl
      have hfi : T.f 0 = f0 := by rw [HTT.out]; rfl
      have hct : confT P S (p0, p1) (u : Int) = conflictM P U (p0, p1) := by unfold confT; rw [Int.toNat_natCast, hU]
      have htk : takeS P S (u : Int) (innerM P S (p0, p1) T 0 us) = takeM P U (u : Int) (innerM P S (p0, p1) T 0 us) := by unfold takeS; rw [Int.toNat_natCast, hU]
      have hur : -1000000 ≤ (u : Int) ∧ (u : Int) ≤ 1000000 := by have := HMX.out; omega
      have HSTEP := Lib.hid (show innerM P S (p0, p1) T (0 + 1) us = if f0 = false ∧ (u : Int) ∉ innerM P S (p0, p1) T 0 us ∧ conflictM P U (p0, p1) = true then takeM P U (u : Int) (innerM P S (p0, p1) T 0 us) else innerM P S (p0, p1) T 0 us by
       show stepM P S (p0, p1) T 0 (innerM P S (p0, p1) T 0 us) = _
       unfold stepM; rw [hnu, hfi, hct, htk])
      have HU := Lib.hid hU
      obtain ⟨q1, hq1⟩ : ∃ q, decide ((u : Int) ∈ innerM P S (p0, p1) T 0 us) = q := ⟨_, rfl⟩
      obtain ⟨q2, hq2⟩ : ∃ q, conflictM P U (p0, p1) = q := ⟨_, rfl⟩
      have HHO := Lib.hid (show ∀ W : World, Below wr.heap.size wr W → Calls Tryz.prog 105 #[.pointer (some ⟨hb, 0, none⟩), .int .i64 (u : Int)] W fun e w' => e = .returned (.bool q1) ∧ Below W.heap.size W w' from fun W hW => by have := cvHolds_any hb b _ (u : Int) W (HHI.out.below hW).box.c2 (HHI.out.below hW).map hur; rw [hq1] at this; exact this)
      have HCO := Lib.hid (show ∀ W : World, Below wr.heap.size wr W → Calls Tryz.prog 19 #[.pointer (some ⟨mb, 0, none⟩), .int .i64 (u : Int), .agg #[.int .i64 p0, .int .i64 p1]] W fun e w' => e = .returned (.bool q2) ∧ Below W.heap.size W w' from fun W hW => by have := cvConflict_any u U p0 p1 W (H.out.below (HBI.out.trans (hW.mono HBI.out.size))) HP.out HPP.out HU.out; rw [hq2] at this; exact this)
      have HQ1 := Lib.hid hq1; have HQ2 := Lib.hid hq2
      have K8 := Lib.hid (show ∀ w' : World, Below wr.heap.size wr w' → w'.cell? ⟨hb, 0, none⟩ = some (.pointer (some ⟨mb, 0, none⟩)) ∧ w'.cell? ⟨w.heap.size, 0, none⟩ = some (.int .i64 p0) ∧ w'.cell? ⟨w.heap.size, 1, none⟩ = some (.int .i64 p1) ∧ w'.cell? ⟨wd.heap.size, 6, none⟩ = some (.bool f0) from fun w' hw => ⟨(HHI.out.below hw).box.c0, (PPI.out.below hw).c 0 _ rfl, (PPI.out.below hw).c 1 _ rfl, (PTI.out.below hw).c 6 _ rfl⟩)
      have ir : ∀ w : World, (Instr.index 34 (.agg #[.int .i64 (u : Int), .int .i64 n1, .int .i64 n2]) (.int .i64 0)).run Tryz.prog w = .ok (.int .i64 (u : Int)) w := fun w => index3v_run ⟨(u : Int), n1, n2, 0, 0, 0, false, false, false⟩ 0 (by omega) w
      clear hul hU hnu hfi hct htk hur hq1 hq2
      cases f0
      ·cases q1
       ·have HNI := Lib.hid (of_decide_eq_false HQ1.out)
        cases q2
        ·go_wp2
         refine wp_region_noPanic ?_
         refine wp_region_held_drew (S := fun w' => w'.cell? ⟨hb, 0, none⟩ = some (.pointer (some ⟨mb, 0, none⟩)) ∧ w'.cell? ⟨w.heap.size, 0, none⟩ = some (.int .i64 p0) ∧ w'.cell? ⟨w.heap.size, 1, none⟩ = some (.int .i64 p1) ∧ w'.cell? ⟨wd.heap.size, 6, none⟩ = some (.bool false)) (by kernel_rfl) (K8.out _ (Below.refl _ _).drew') (fun hHeld => ?_)
         refine rU 0 _ _ ?_
         (try simp only [Act.put]);try simp only [sA,sZ,sS]
         refine rU 1 _ _ ?_
         (try simp only [Act.put]);try simp only [sA,sZ,sS]
         refine rU 2 _ _ ?_
         (try simp only [Act.put]);try simp only [sA,sZ,sS]
         refine rU 3 _ _ ?_
         (try simp only [Act.put]);try simp only [sA,sZ,sS]
         refine rU 4 _ _ ?_
         (try simp only [Act.put]);try simp only [sA,sZ,sS]
         refine rU 5 _ _ ?_
         (try simp only [Act.put]);try simp only [sA,sZ,sS]
         refine rU 6 _ _ ?_
         (try simp only [Act.put]);try simp only [sA,sZ,sS]
         refine rU 7 _ _ ?_
         (try simp only [Act.put]);try simp only [sA,sZ,sS]
         refine reg_call 8 ?_ (by kernel_rfl) ?_ (fun K hK => ?_);rotate_left 1
         ·simp only [gA,gS,gZ]; exact rfl
         go_simp
         refine (HHO.out _ (Below.refl _ _).drew').mono ?_
         rintro e w7 ⟨rfl, hb7⟩
         have HB7 := Lib.hid ((Below.refl wr.heap.size wr).drew'.trans hb7); clear hb7
         refine hK.out _ _ (K8.out _ HB7.out) (fun hHeld => ?_)
         clear hK K
         (try simp only [Act.put]);try simp only [sA,sZ,sS]
         refine rU 9 _ _ ?_
         (try simp only [Act.put]);try simp only [sA,sZ,sS]
         refine rU 10 _ _ ?_
         (try simp only [Act.put]);try simp only [sA,sZ,sS]
         refine rU 11 _ _ ?_
         (try simp only [Act.put]);try simp only [sA,sZ,sS]
         refine rU 12 _ _ ?_
         (try simp only [Act.put]);try simp only [sA,sZ,sS]
         refine rU 13 _ _ ?_
         (try simp only [Act.put]);try simp only [sA,sZ,sS]
         refine rU 14 _ _ ?_
         (try simp only [Act.put]);try simp only [sA,sZ,sS]
         refine rU 15 _ _ ?_
         (try simp only [Act.put]);try simp only [sA,sZ,sS]
         refine rU 16 _ _ ?_
         (try simp only [Act.put]);try simp only [sA,sZ,sS]
         refine rU 17 _ _ ?_
         (try simp only [Act.put]);try simp only [sA,sZ,sS]
         refine reg_call 18 ?_ (by kernel_rfl) ?_ (fun K hK => ?_);rotate_left 1
         ·simp only [gA,gS,gZ]; exact rfl
         go_simp
         refine (HCO.out _ HB7.out).mono ?_
         rintro e w8 ⟨rfl, hb8⟩
         have HB8 := Lib.hid (HB7.out.trans (hb8.mono HB7.out.size)); clear hb8
         refine hK.out _ _ (K8.out _ HB8.out) (fun hHeld => ?_)
         clear hK K
         (try simp only [Act.put]);try simp only [sA,sZ,sS]
         refine rU 19 _ _ ?_
         (try simp only [Act.put]);try simp only [sA,sZ,sS]
         refine wpAnyH_done (by kernel_rfl) ?_ _
         refine NoPanic.normal ?_
         go_wp2
         go_roundw
         case rel => exact ⟨0 + 1, vi, by omega, by go_num, by rw [show innerM P S (p0, p1) T (0 + 1) us = innerM P S (p0, p1) T 0 us from by rw [HSTEP.out, HQ2.out]; simp]; exact HHI.out.below HB8.out, HKI.out.trans (KeepH.of_below HB8.out), HBI.out.trans ((HB8.out).mono HBI.out.size)⟩
         case measure => simp [intOf]
        ·go_wp2
         refine wp_region_noPanic ?_
         refine wp_region_held_drew (S := fun w' => w'.cell? ⟨hb, 0, none⟩ = some (.pointer (some ⟨mb, 0, none⟩)) ∧ w'.cell? ⟨w.heap.size, 0, none⟩ = some (.int .i64 p0) ∧ w'.cell? ⟨w.heap.size, 1, none⟩ = some (.int .i64 p1) ∧ w'.cell? ⟨wd.heap.size, 6, none⟩ = some (.bool false)) (by kernel_rfl) (K8.out _ (Below.refl _ _).drew') (fun hHeld => ?_)
         refine rU 0 _ _ ?_
         (try simp only [Act.put]);try simp only [sA,sZ,sS]
         refine rU 1 _ _ ?_
         (try simp only [Act.put]);try simp only [sA,sZ,sS]
         refine rU 2 _ _ ?_
         (try simp only [Act.put]);try simp only [sA,sZ,sS]
         refine rU 3 _ _ ?_
         (try simp only [Act.put]);try simp only [sA,sZ,sS]
         refine rU 4 _ _ ?_
         (try simp only [Act.put]);try simp only [sA,sZ,sS]
         refine rU 5 _ _ ?_
         (try simp only [Act.put]);try simp only [sA,sZ,sS]
         refine rU 6 _ _ ?_
         (try simp only [Act.put]);try simp only [sA,sZ,sS]
         refine rU 7 _ _ ?_
         (try simp only [Act.put]);try simp only [sA,sZ,sS]
         refine reg_call 8 ?_ (by kernel_rfl) ?_ (fun K hK => ?_);rotate_left 1
         ·simp only [gA,gS,gZ]; exact rfl
         go_simp
         refine (HHO.out _ (Below.refl _ _).drew').mono ?_
         rintro e w7 ⟨rfl, hb7⟩
         have HB7 := Lib.hid ((Below.refl wr.heap.size wr).drew'.trans hb7); clear hb7
         refine hK.out _ _ (K8.out _ HB7.out) (fun hHeld => ?_)
         clear hK K
         (try simp only [Act.put]);try simp only [sA,sZ,sS]
         refine rU 9 _ _ ?_
         (try simp only [Act.put]);try simp only [sA,sZ,sS]
         refine rU 10 _ _ ?_
         (try simp only [Act.put]);try simp only [sA,sZ,sS]
         refine rU 11 _ _ ?_
         (try simp only [Act.put]);try simp only [sA,sZ,sS]
         refine rU 12 _ _ ?_
         (try simp only [Act.put]);try simp only [sA,sZ,sS]
         refine rU 13 _ _ ?_
         (try simp only [Act.put]);try simp only [sA,sZ,sS]
         refine rU 14 _ _ ?_
         (try simp only [Act.put]);try simp only [sA,sZ,sS]
         refine rU 15 _ _ ?_
         (try simp only [Act.put]);try simp only [sA,sZ,sS]
         refine rU 16 _ _ ?_
         (try simp only [Act.put]);try simp only [sA,sZ,sS]
         refine rU 17 _ _ ?_
         (try simp only [Act.put]);try simp only [sA,sZ,sS]
         refine reg_call 18 ?_ (by kernel_rfl) ?_ (fun K hK => ?_);rotate_left 1
         ·simp only [gA,gS,gZ]; exact rfl
         go_simp
         refine (HCO.out _ HB7.out).mono ?_
         rintro e w8 ⟨rfl, hb8⟩
         have HB8 := Lib.hid (HB7.out.trans (hb8.mono HB7.out.size)); clear hb8
         refine hK.out _ _ (K8.out _ HB8.out) (fun hHeld => ?_)
         clear hK K
         (try simp only [Act.put]);try simp only [sA,sZ,sS]
         refine rU 19 _ _ ?_
         (try simp only [Act.put]);try simp only [sA,sZ,sS]
         refine wpAnyH_done (by kernel_rfl) ?_ _
         refine NoPanic.normal ?_
         go_wp2_with fail
         refine (cvTake_any u U w8 H.out (HBI.out.trans (HB8.out.mono HBI.out.size)) (HHI.out.below HB8.out) HU.out (by have := (HI.out.inner P (p0, p1) (HN.out t T HT.out) 0 (by omega)).le; have := HMX.out; omega)).mono ?_
         rintro e w9 ⟨rfl, ⟨v9, hh9, hk9⟩, hb9⟩
         have HH9 := Lib.hid hh9; have HK9 := Lib.hid (HKI.out.trans ((KeepH.of_below HB8.out).trans hk9)); have HB9 := Lib.hid hb9
         clear hh9 hk9 hb9
         go_wp2
         go_roundw
         case rel => exact ⟨0 + 1, v9, by omega, by go_num, by rw [show innerM P S (p0, p1) T (0 + 1) us = takeM P U (u : Int) (innerM P S (p0, p1) T 0 us) from by rw [HSTEP.out, HQ2.out, if_pos (by refine ⟨?_, HNI.out, ?_⟩ <;> trivial)]]; exact HH9.out, HK9.out, HB9.out⟩
         case measure => simp [intOf]
       ·have HYI := Lib.hid (of_decide_eq_true HQ1.out)
        go_wp2
        refine wp_region_noPanic ?_
        refine wp_region_held_drew (S := fun w' => w'.cell? ⟨hb, 0, none⟩ = some (.pointer (some ⟨mb, 0, none⟩)) ∧ w'.cell? ⟨w.heap.size, 0, none⟩ = some (.int .i64 p0) ∧ w'.cell? ⟨w.heap.size, 1, none⟩ = some (.int .i64 p1) ∧ w'.cell? ⟨wd.heap.size, 6, none⟩ = some (.bool false)) (by kernel_rfl) (K8.out _ (Below.refl _ _).drew') (fun hHeld => ?_)
        refine rU 0 _ _ ?_
        (try simp only [Act.put]);try simp only [sA,sZ,sS]
        refine rU 1 _ _ ?_
        (try simp only [Act.put]);try simp only [sA,sZ,sS]
        refine rU 2 _ _ ?_
        (try simp only [Act.put]);try simp only [sA,sZ,sS]
        refine rU 3 _ _ ?_
        (try simp only [Act.put]);try simp only [sA,sZ,sS]
        refine rU 4 _ _ ?_
        (try simp only [Act.put]);try simp only [sA,sZ,sS]
        refine rU 5 _ _ ?_
        (try simp only [Act.put]);try simp only [sA,sZ,sS]
        refine rU 6 _ _ ?_
        (try simp only [Act.put]);try simp only [sA,sZ,sS]
        refine rU 7 _ _ ?_
        (try simp only [Act.put]);try simp only [sA,sZ,sS]
        refine reg_call 8 ?_ (by kernel_rfl) ?_ (fun K hK => ?_);rotate_left 1
        ·simp only [gA,gS,gZ]; exact rfl
        go_simp
        refine (HHO.out _ (Below.refl _ _).drew').mono ?_
        rintro e w7 ⟨rfl, hb7⟩
        have HB7 := Lib.hid ((Below.refl wr.heap.size wr).drew'.trans hb7); clear hb7
        refine hK.out _ _ (K8.out _ HB7.out) (fun hHeld => ?_)
        clear hK K
        (try simp only [Act.put]);try simp only [sA,sZ,sS]
        refine rU 9 _ _ ?_
        (try simp only [Act.put]);try simp only [sA,sZ,sS]
        refine rU 10 _ _ ?_
        (try simp only [Act.put]);try simp only [sA,sZ,sS]
        refine rU 11 _ _ ?_
        (try simp only [Act.put]);try simp only [sA,sZ,sS]
        refine rS 12 ?_ ?_ ?_ ?_;rotate_left 1
        ·simp only [gA,gS,gZ]; exact rfl
        ·rfl
        (try simp only [Act.put]);try simp only [sA,sZ,sS]
        refine rS 13 ?_ ?_ ?_ ?_;rotate_left 1
        ·simp only [gA,gS,gZ]; exact rfl
        ·rfl
        (try simp only [Act.put]);try simp only [sA,sZ,sS]
        refine rS 14 ?_ ?_ ?_ ?_;rotate_left 1
        ·simp only [gA,gS,gZ]; exact rfl
        ·rfl
        (try simp only [Act.put]);try simp only [sA,sZ,sS]
        refine rS 15 ?_ ?_ ?_ ?_;rotate_left 1
        ·simp only [gA,gS,gZ]; exact rfl
        ·rfl
        (try simp only [Act.put]);try simp only [sA,sZ,sS]
        refine rS 16 ?_ ?_ ?_ ?_;rotate_left 1
        ·simp only [gA,gS,gZ]; exact rfl
        ·rfl
        (try simp only [Act.put]);try simp only [sA,sZ,sS]
        refine rS 17 ?_ ?_ ?_ ?_;rotate_left 1
        ·simp only [gA,gS,gZ]; exact rfl
        ·rfl
        (try simp only [Act.put]);try simp only [sA,sZ,sS]
        refine rS 18 ?_ ?_ ?_ ?_;rotate_left 1
        ·simp only [gA,gS,gZ]; exact rfl
        ·rfl
        (try simp only [Act.put]);try simp only [sA,sZ,sS]
        refine rU 19 _ _ ?_
        (try simp only [Act.put]);try simp only [sA,sZ,sS]
        refine wpAnyH_done (by kernel_rfl) ?_ _
        refine NoPanic.normal ?_
        go_wp2
        go_roundw
        case rel => exact ⟨0 + 1, vi, by omega, by go_num, by rw [show innerM P S (p0, p1) T (0 + 1) us = innerM P S (p0, p1) T 0 us from by rw [HSTEP.out, if_neg (fun h => h.2.1 HYI.out)]]; exact HHI.out.below HB7.out, HKI.out.trans (KeepH.of_below HB7.out), HBI.out.trans ((HB7.out).mono HBI.out.size)⟩
        case measure => simp [intOf]
      ·go_wp2
       refine wp_region_noPanic ?_
       refine wp_region_held_drew (S := fun w' => w'.cell? ⟨hb, 0, none⟩ = some (.pointer (some ⟨mb, 0, none⟩)) ∧ w'.cell? ⟨w.heap.size, 0, none⟩ = some (.int .i64 p0) ∧ w'.cell? ⟨w.heap.size, 1, none⟩ = some (.int .i64 p1) ∧ w'.cell? ⟨wd.heap.size, 6, none⟩ = some (.bool true)) (by kernel_rfl) (K8.out _ (Below.refl _ _).drew') (fun hHeld => ?_)
       refine rU 0 _ _ ?_
       (try simp only [Act.put]);try simp only [sA,sZ,sS]
       refine rU 1 _ _ ?_
       (try simp only [Act.put]);try simp only [sA,sZ,sS]
       refine rU 2 _ _ ?_
       (try simp only [Act.put]);try simp only [sA,sZ,sS]
       refine rU 3 _ _ ?_
       (try simp only [Act.put]);try simp only [sA,sZ,sS]
       refine rU 4 _ _ ?_
       (try simp only [Act.put]);try simp only [sA,sZ,sS]
       refine rU 5 _ _ ?_
       (try simp only [Act.put]);try simp only [sA,sZ,sS]
       refine rS 6 ?_ ?_ ?_ ?_;rotate_left 1
       ·simp only [gA,gS,gZ]; exact rfl
       ·rfl
       (try simp only [Act.put]);try simp only [sA,sZ,sS]
       refine rS 7 ?_ ?_ ?_ ?_;rotate_left 1
       ·simp only [gA,gS,gZ]; exact rfl
       ·rfl
       (try simp only [Act.put]);try simp only [sA,sZ,sS]
       refine rS 8 ?_ ?_ ?_ ?_;rotate_left 1
       ·simp only [gA,gS,gZ]; exact rfl
       ·rfl
       (try simp only [Act.put]);try simp only [sA,sZ,sS]
       refine rS 9 ?_ ?_ ?_ ?_;rotate_left 1
       ·simp only [gA,gS,gZ]; exact rfl
       ·rfl
       (try simp only [Act.put]);try simp only [sA,sZ,sS]
       refine rU 10 _ _ ?_
       (try simp only [Act.put]);try simp only [sA,sZ,sS]
       refine rU 11 _ _ ?_
       (try simp only [Act.put]);try simp only [sA,sZ,sS]
       refine rS 12 ?_ ?_ ?_ ?_;rotate_left 1
       ·simp only [gA,gS,gZ]; exact rfl
       ·rfl
       (try simp only [Act.put]);try simp only [sA,sZ,sS]
       refine rS 13 ?_ ?_ ?_ ?_;rotate_left 1
       ·simp only [gA,gS,gZ]; exact rfl
       ·rfl
       (try simp only [Act.put]);try simp only [sA,sZ,sS]
       refine rS 14 ?_ ?_ ?_ ?_;rotate_left 1
       ·simp only [gA,gS,gZ]; exact rfl
       ·rfl
       (try simp only [Act.put]);try simp only [sA,sZ,sS]
       refine rS 15 ?_ ?_ ?_ ?_;rotate_left 1
       ·simp only [gA,gS,gZ]; exact rfl
       ·rfl
       (try simp only [Act.put]);try simp only [sA,sZ,sS]
       refine rS 16 ?_ ?_ ?_ ?_;rotate_left 1
       ·simp only [gA,gS,gZ]; exact rfl
       ·rfl
       (try simp only [Act.put]);try simp only [sA,sZ,sS]
       refine rS 17 ?_ ?_ ?_ ?_;rotate_left 1
       ·simp only [gA,gS,gZ]; exact rfl
       ·rfl
       (try simp only [Act.put]);try simp only [sA,sZ,sS]
       refine rS 18 ?_ ?_ ?_ ?_;rotate_left 1
       ·simp only [gA,gS,gZ]; exact rfl
       ·rfl
       (try simp only [Act.put]);try simp only [sA,sZ,sS]
       refine rU 19 _ _ ?_
       (try simp only [Act.put]);try simp only [sA,sZ,sS]
       refine wpAnyH_done (by kernel_rfl) ?_ _
       refine NoPanic.normal ?_
       go_wp2
       go_roundw
       case rel => exact ⟨0 + 1, vi, by omega, by go_num, by rw [show innerM P S (p0, p1) T (0 + 1) us = innerM P S (p0, p1) T 0 us from by rw [HSTEP.out, if_neg (fun h => by cases h.1)]]; exact HHI.out.below (Below.refl wr.heap.size wr).drew', HKI.out.trans (KeepH.of_below (Below.refl wr.heap.size wr).drew'), HBI.out.trans (((Below.refl wr.heap.size wr).drew').mono HBI.out.size)⟩
       case measure => simp [intOf]
     ·obtain ⟨u, hu, hul⟩ := HN.out t T HT.out 1 (by omega)
      obtain ⟨U, hU⟩ : ∃ U, S[u]? = some U := ⟨_, List.getElem?_eq_getElem hul⟩
      rw [HTT.out] at hu
      obtain rfl : n1 = (u : Int) := hu
      have hnu : T.n 1 = (u : Int) := by rw [HTT.out]; rfl
      have hfi : T.f 1 = f1 := by rw [HTT.out]; rfl
      have hct : confT P S (p0, p1) (u : Int) = conflictM P U (p0, p1) := by unfold confT; rw [Int.toNat_natCast, hU]
      have htk : takeS P S (u : Int) (innerM P S (p0, p1) T 1 us) = takeM P U (u : Int) (innerM P S (p0, p1) T 1 us) := by unfold takeS; rw [Int.toNat_natCast, hU]
      have hur : -1000000 ≤ (u : Int) ∧ (u : Int) ≤ 1000000 := by have := HMX.out; omega
      have HSTEP := Lib.hid (show innerM P S (p0, p1) T (1 + 1) us = if f1 = false ∧ (u : Int) ∉ innerM P S (p0, p1) T 1 us ∧ conflictM P U (p0, p1) = true then takeM P U (u : Int) (innerM P S (p0, p1) T 1 us) else innerM P S (p0, p1) T 1 us by
       show stepM P S (p0, p1) T 1 (innerM P S (p0, p1) T 1 us) = _
       unfold stepM; rw [hnu, hfi, hct, htk])
      have HU := Lib.hid hU
      obtain ⟨q1, hq1⟩ : ∃ q, decide ((u : Int) ∈ innerM P S (p0, p1) T 1 us) = q := ⟨_, rfl⟩
      obtain ⟨q2, hq2⟩ : ∃ q, conflictM P U (p0, p1) = q := ⟨_, rfl⟩
      have HHO := Lib.hid (show ∀ W : World, Below wr.heap.size wr W → Calls Tryz.prog 105 #[.pointer (some ⟨hb, 0, none⟩), .int .i64 (u : Int)] W fun e w' => e = .returned (.bool q1) ∧ Below W.heap.size W w' from fun W hW => by have := cvHolds_any hb b _ (u : Int) W (HHI.out.below hW).box.c2 (HHI.out.below hW).map hur; rw [hq1] at this; exact this)
      have HCO := Lib.hid (show ∀ W : World, Below wr.heap.size wr W → Calls Tryz.prog 19 #[.pointer (some ⟨mb, 0, none⟩), .int .i64 (u : Int), .agg #[.int .i64 p0, .int .i64 p1]] W fun e w' => e = .returned (.bool q2) ∧ Below W.heap.size W w' from fun W hW => by have := cvConflict_any u U p0 p1 W (H.out.below (HBI.out.trans (hW.mono HBI.out.size))) HP.out HPP.out HU.out; rw [hq2] at this; exact this)
      have HQ1 := Lib.hid hq1; have HQ2 := Lib.hid hq2
      have K8 := Lib.hid (show ∀ w' : World, Below wr.heap.size wr w' → w'.cell? ⟨hb, 0, none⟩ = some (.pointer (some ⟨mb, 0, none⟩)) ∧ w'.cell? ⟨w.heap.size, 0, none⟩ = some (.int .i64 p0) ∧ w'.cell? ⟨w.heap.size, 1, none⟩ = some (.int .i64 p1) ∧ w'.cell? ⟨wd.heap.size, 7, none⟩ = some (.bool f1) from fun w' hw => ⟨(HHI.out.below hw).box.c0, (PPI.out.below hw).c 0 _ rfl, (PPI.out.below hw).c 1 _ rfl, (PTI.out.below hw).c 7 _ rfl⟩)
      have ir : ∀ w : World, (Instr.index 34 (.agg #[.int .i64 n0, .int .i64 (u : Int), .int .i64 n2]) (.int .i64 1)).run Tryz.prog w = .ok (.int .i64 (u : Int)) w := fun w => index3v_run ⟨n0, (u : Int), n2, 0, 0, 0, false, false, false⟩ 1 (by omega) w
      clear hul hU hnu hfi hct htk hur hq1 hq2
      cases f1
      ·cases q1
       ·have HNI := Lib.hid (of_decide_eq_false HQ1.out)
        cases q2
        ·go_wp2
         refine wp_region_noPanic ?_
         refine wp_region_held_drew (S := fun w' => w'.cell? ⟨hb, 0, none⟩ = some (.pointer (some ⟨mb, 0, none⟩)) ∧ w'.cell? ⟨w.heap.size, 0, none⟩ = some (.int .i64 p0) ∧ w'.cell? ⟨w.heap.size, 1, none⟩ = some (.int .i64 p1) ∧ w'.cell? ⟨wd.heap.size, 7, none⟩ = some (.bool false)) (by kernel_rfl) (K8.out _ (Below.refl _ _).drew') (fun hHeld => ?_)
         refine rU 0 _ _ ?_
         (try simp only [Act.put]);try simp only [sA,sZ,sS]
         refine rU 1 _ _ ?_
         (try simp only [Act.put]);try simp only [sA,sZ,sS]
         refine rU 2 _ _ ?_
         (try simp only [Act.put]);try simp only [sA,sZ,sS]
         refine rU 3 _ _ ?_
         (try simp only [Act.put]);try simp only [sA,sZ,sS]
         refine rU 4 _ _ ?_
         (try simp only [Act.put]);try simp only [sA,sZ,sS]
         refine rU 5 _ _ ?_
         (try simp only [Act.put]);try simp only [sA,sZ,sS]
         refine rU 6 _ _ ?_
         (try simp only [Act.put]);try simp only [sA,sZ,sS]
         refine rU 7 _ _ ?_
         (try simp only [Act.put]);try simp only [sA,sZ,sS]
         refine reg_call 8 ?_ (by kernel_rfl) ?_ (fun K hK => ?_);rotate_left 1
         ·simp only [gA,gS,gZ]; exact rfl
         go_simp
         refine (HHO.out _ (Below.refl _ _).drew').mono ?_
         rintro e w7 ⟨rfl, hb7⟩
         have HB7 := Lib.hid ((Below.refl wr.heap.size wr).drew'.trans hb7); clear hb7
         refine hK.out _ _ (K8.out _ HB7.out) (fun hHeld => ?_)
         clear hK K
         (try simp only [Act.put]);try simp only [sA,sZ,sS]
         refine rU 9 _ _ ?_
         (try simp only [Act.put]);try simp only [sA,sZ,sS]
         refine rU 10 _ _ ?_
         (try simp only [Act.put]);try simp only [sA,sZ,sS]
         refine rU 11 _ _ ?_
         (try simp only [Act.put]);try simp only [sA,sZ,sS]
         refine rU 12 _ _ ?_
         (try simp only [Act.put]);try simp only [sA,sZ,sS]
         refine rU 13 _ _ ?_
         (try simp only [Act.put]);try simp only [sA,sZ,sS]
         refine rU 14 _ _ ?_
         (try simp only [Act.put]);try simp only [sA,sZ,sS]
         refine rU 15 _ _ ?_
         (try simp only [Act.put]);try simp only [sA,sZ,sS]
         refine rU 16 _ _ ?_
         (try simp only [Act.put]);try simp only [sA,sZ,sS]
         refine rU 17 _ _ ?_
         (try simp only [Act.put]);try simp only [sA,sZ,sS]
         refine reg_call 18 ?_ (by kernel_rfl) ?_ (fun K hK => ?_);rotate_left 1
         ·simp only [gA,gS,gZ]; exact rfl
         go_simp
         refine (HCO.out _ HB7.out).mono ?_
         rintro e w8 ⟨rfl, hb8⟩
         have HB8 := Lib.hid (HB7.out.trans (hb8.mono HB7.out.size)); clear hb8
         refine hK.out _ _ (K8.out _ HB8.out) (fun hHeld => ?_)
         clear hK K
         (try simp only [Act.put]);try simp only [sA,sZ,sS]
         refine rU 19 _ _ ?_
         (try simp only [Act.put]);try simp only [sA,sZ,sS]
         refine wpAnyH_done (by kernel_rfl) ?_ _
         refine NoPanic.normal ?_
         go_wp2
         go_roundw
         case rel => exact ⟨1 + 1, vi, by omega, by go_num, by rw [show innerM P S (p0, p1) T (1 + 1) us = innerM P S (p0, p1) T 1 us from by rw [HSTEP.out, HQ2.out]; simp]; exact HHI.out.below HB8.out, HKI.out.trans (KeepH.of_below HB8.out), HBI.out.trans ((HB8.out).mono HBI.out.size)⟩
         case measure => simp [intOf]
        ·go_wp2
         refine wp_region_noPanic ?_
         refine wp_region_held_drew (S := fun w' => w'.cell? ⟨hb, 0, none⟩ = some (.pointer (some ⟨mb, 0, none⟩)) ∧ w'.cell? ⟨w.heap.size, 0, none⟩ = some (.int .i64 p0) ∧ w'.cell? ⟨w.heap.size, 1, none⟩ = some (.int .i64 p1) ∧ w'.cell? ⟨wd.heap.size, 7, none⟩ = some (.bool false)) (by kernel_rfl) (K8.out _ (Below.refl _ _).drew') (fun hHeld => ?_)
         refine rU 0 _ _ ?_
         (try simp only [Act.put]);try simp only [sA,sZ,sS]
         refine rU 1 _ _ ?_
         (try simp only [Act.put]);try simp only [sA,sZ,sS]
         refine rU 2 _ _ ?_
         (try simp only [Act.put]);try simp only [sA,sZ,sS]
         refine rU 3 _ _ ?_
         (try simp only [Act.put]);try simp only [sA,sZ,sS]
         refine rU 4 _ _ ?_
         (try simp only [Act.put]);try simp only [sA,sZ,sS]
         refine rU 5 _ _ ?_
         (try simp only [Act.put]);try simp only [sA,sZ,sS]
         refine rU 6 _ _ ?_
         (try simp only [Act.put]);try simp only [sA,sZ,sS]
         refine rU 7 _ _ ?_
         (try simp only [Act.put]);try simp only [sA,sZ,sS]
         refine reg_call 8 ?_ (by kernel_rfl) ?_ (fun K hK => ?_);rotate_left 1
         ·simp only [gA,gS,gZ]; exact rfl
         go_simp
         refine (HHO.out _ (Below.refl _ _).drew').mono ?_
         rintro e w7 ⟨rfl, hb7⟩
         have HB7 := Lib.hid ((Below.refl wr.heap.size wr).drew'.trans hb7); clear hb7
         refine hK.out _ _ (K8.out _ HB7.out) (fun hHeld => ?_)
         clear hK K
         (try simp only [Act.put]);try simp only [sA,sZ,sS]
         refine rU 9 _ _ ?_
         (try simp only [Act.put]);try simp only [sA,sZ,sS]
         refine rU 10 _ _ ?_
         (try simp only [Act.put]);try simp only [sA,sZ,sS]
         refine rU 11 _ _ ?_
         (try simp only [Act.put]);try simp only [sA,sZ,sS]
         refine rU 12 _ _ ?_
         (try simp only [Act.put]);try simp only [sA,sZ,sS]
         refine rU 13 _ _ ?_
         (try simp only [Act.put]);try simp only [sA,sZ,sS]
         refine rU 14 _ _ ?_
         (try simp only [Act.put]);try simp only [sA,sZ,sS]
         refine rU 15 _ _ ?_
         (try simp only [Act.put]);try simp only [sA,sZ,sS]
         refine rU 16 _ _ ?_
         (try simp only [Act.put]);try simp only [sA,sZ,sS]
         refine rU 17 _ _ ?_
         (try simp only [Act.put]);try simp only [sA,sZ,sS]
         refine reg_call 18 ?_ (by kernel_rfl) ?_ (fun K hK => ?_);rotate_left 1
         ·simp only [gA,gS,gZ]; exact rfl
         go_simp
         refine (HCO.out _ HB7.out).mono ?_
         rintro e w8 ⟨rfl, hb8⟩
         have HB8 := Lib.hid (HB7.out.trans (hb8.mono HB7.out.size)); clear hb8
         refine hK.out _ _ (K8.out _ HB8.out) (fun hHeld => ?_)
         clear hK K
         (try simp only [Act.put]);try simp only [sA,sZ,sS]
         refine rU 19 _ _ ?_
         (try simp only [Act.put]);try simp only [sA,sZ,sS]
         refine wpAnyH_done (by kernel_rfl) ?_ _
         refine NoPanic.normal ?_
         go_wp2_with fail
         refine (cvTake_any u U w8 H.out (HBI.out.trans (HB8.out.mono HBI.out.size)) (HHI.out.below HB8.out) HU.out (by have := (HI.out.inner P (p0, p1) (HN.out t T HT.out) 1 (by omega)).le; have := HMX.out; omega)).mono ?_
         rintro e w9 ⟨rfl, ⟨v9, hh9, hk9⟩, hb9⟩
         have HH9 := Lib.hid hh9; have HK9 := Lib.hid (HKI.out.trans ((KeepH.of_below HB8.out).trans hk9)); have HB9 := Lib.hid hb9
         clear hh9 hk9 hb9
         go_wp2
         go_roundw
         case rel => exact ⟨1 + 1, v9, by omega, by go_num, by rw [show innerM P S (p0, p1) T (1 + 1) us = takeM P U (u : Int) (innerM P S (p0, p1) T 1 us) from by rw [HSTEP.out, HQ2.out, if_pos (by refine ⟨?_, HNI.out, ?_⟩ <;> trivial)]]; exact HH9.out, HK9.out, HB9.out⟩
         case measure => simp [intOf]
       ·have HYI := Lib.hid (of_decide_eq_true HQ1.out)
        go_wp2
        refine wp_region_noPanic ?_
        refine wp_region_held_drew (S := fun w' => w'.cell? ⟨hb, 0, none⟩ = some (.pointer (some ⟨mb, 0, none⟩)) ∧ w'.cell? ⟨w.heap.size, 0, none⟩ = some (.int .i64 p0) ∧ w'.cell? ⟨w.heap.size, 1, none⟩ = some (.int .i64 p1) ∧ w'.cell? ⟨wd.heap.size, 7, none⟩ = some (.bool false)) (by kernel_rfl) (K8.out _ (Below.refl _ _).drew') (fun hHeld => ?_)
        refine rU 0 _ _ ?_
        (try simp only [Act.put]);try simp only [sA,sZ,sS]
        refine rU 1 _ _ ?_
        (try simp only [Act.put]);try simp only [sA,sZ,sS]
        refine rU 2 _ _ ?_
        (try simp only [Act.put]);try simp only [sA,sZ,sS]
        refine rU 3 _ _ ?_
        (try simp only [Act.put]);try simp only [sA,sZ,sS]
        refine rU 4 _ _ ?_
        (try simp only [Act.put]);try simp only [sA,sZ,sS]
        refine rU 5 _ _ ?_
        (try simp only [Act.put]);try simp only [sA,sZ,sS]
        refine rU 6 _ _ ?_
        (try simp only [Act.put]);try simp only [sA,sZ,sS]
        refine rU 7 _ _ ?_
        (try simp only [Act.put]);try simp only [sA,sZ,sS]
        refine reg_call 8 ?_ (by kernel_rfl) ?_ (fun K hK => ?_);rotate_left 1
        ·simp only [gA,gS,gZ]; exact rfl
        go_simp
        refine (HHO.out _ (Below.refl _ _).drew').mono ?_
        rintro e w7 ⟨rfl, hb7⟩
        have HB7 := Lib.hid ((Below.refl wr.heap.size wr).drew'.trans hb7); clear hb7
        refine hK.out _ _ (K8.out _ HB7.out) (fun hHeld => ?_)
        clear hK K
        (try simp only [Act.put]);try simp only [sA,sZ,sS]
        refine rU 9 _ _ ?_
        (try simp only [Act.put]);try simp only [sA,sZ,sS]
        refine rU 10 _ _ ?_
        (try simp only [Act.put]);try simp only [sA,sZ,sS]
        refine rU 11 _ _ ?_
        (try simp only [Act.put]);try simp only [sA,sZ,sS]
        refine rS 12 ?_ ?_ ?_ ?_;rotate_left 1
        ·simp only [gA,gS,gZ]; exact rfl
        ·rfl
        (try simp only [Act.put]);try simp only [sA,sZ,sS]
        refine rS 13 ?_ ?_ ?_ ?_;rotate_left 1
        ·simp only [gA,gS,gZ]; exact rfl
        ·rfl
        (try simp only [Act.put]);try simp only [sA,sZ,sS]
        refine rS 14 ?_ ?_ ?_ ?_;rotate_left 1
        ·simp only [gA,gS,gZ]; exact rfl
        ·rfl
        (try simp only [Act.put]);try simp only [sA,sZ,sS]
        refine rS 15 ?_ ?_ ?_ ?_;rotate_left 1
        ·simp only [gA,gS,gZ]; exact rfl
        ·rfl
        (try simp only [Act.put]);try simp only [sA,sZ,sS]
        refine rS 16 ?_ ?_ ?_ ?_;rotate_left 1
        ·simp only [gA,gS,gZ]; exact rfl
        ·rfl
        (try simp only [Act.put]);try simp only [sA,sZ,sS]
        refine rS 17 ?_ ?_ ?_ ?_;rotate_left 1
        ·simp only [gA,gS,gZ]; exact rfl
        ·rfl
        (try simp only [Act.put]);try simp only [sA,sZ,sS]
        refine rS 18 ?_ ?_ ?_ ?_;rotate_left 1
        ·simp only [gA,gS,gZ]; exact rfl
        ·rfl
        (try simp only [Act.put]);try simp only [sA,sZ,sS]
        refine rU 19 _ _ ?_
        (try simp only [Act.put]);try simp only [sA,sZ,sS]
        refine wpAnyH_done (by kernel_rfl) ?_ _
        refine NoPanic.normal ?_
        go_wp2
        go_roundw
        case rel => exact ⟨1 + 1, vi, by omega, by go_num, by rw [show innerM P S (p0, p1) T (1 + 1) us = innerM P S (p0, p1) T 1 us from by rw [HSTEP.out, if_neg (fun h => h.2.1 HYI.out)]]; exact HHI.out.below HB7.out, HKI.out.trans (KeepH.of_below HB7.out), HBI.out.trans ((HB7.out).mono HBI.out.size)⟩
        case measure => simp [intOf]
      ·go_wp2
       refine wp_region_noPanic ?_
       refine wp_region_held_drew (S := fun w' => w'.cell? ⟨hb, 0, none⟩ = some (.pointer (some ⟨mb, 0, none⟩)) ∧ w'.cell? ⟨w.heap.size, 0, none⟩ = some (.int .i64 p0) ∧ w'.cell? ⟨w.heap.size, 1, none⟩ = some (.int .i64 p1) ∧ w'.cell? ⟨wd.heap.size, 7, none⟩ = some (.bool true)) (by kernel_rfl) (K8.out _ (Below.refl _ _).drew') (fun hHeld => ?_)
       refine rU 0 _ _ ?_
       (try simp only [Act.put]);try simp only [sA,sZ,sS]
       refine rU 1 _ _ ?_
       (try simp only [Act.put]);try simp only [sA,sZ,sS]
       refine rU 2 _ _ ?_
       (try simp only [Act.put]);try simp only [sA,sZ,sS]
       refine rU 3 _ _ ?_
       (try simp only [Act.put]);try simp only [sA,sZ,sS]
       refine rU 4 _ _ ?_
       (try simp only [Act.put]);try simp only [sA,sZ,sS]
       refine rU 5 _ _ ?_
       (try simp only [Act.put]);try simp only [sA,sZ,sS]
       refine rS 6 ?_ ?_ ?_ ?_;rotate_left 1
       ·simp only [gA,gS,gZ]; exact rfl
       ·rfl
       (try simp only [Act.put]);try simp only [sA,sZ,sS]
       refine rS 7 ?_ ?_ ?_ ?_;rotate_left 1
       ·simp only [gA,gS,gZ]; exact rfl
       ·rfl
       (try simp only [Act.put]);try simp only [sA,sZ,sS]
       refine rS 8 ?_ ?_ ?_ ?_;rotate_left 1
       ·simp only [gA,gS,gZ]; exact rfl
       ·rfl
       (try simp only [Act.put]);try simp only [sA,sZ,sS]
       refine rS 9 ?_ ?_ ?_ ?_;rotate_left 1
       ·simp only [gA,gS,gZ]; exact rfl
       ·rfl
       (try simp only [Act.put]);try simp only [sA,sZ,sS]
       refine rU 10 _ _ ?_
       (try simp only [Act.put]);try simp only [sA,sZ,sS]
       refine rU 11 _ _ ?_
       (try simp only [Act.put]);try simp only [sA,sZ,sS]
       refine rS 12 ?_ ?_ ?_ ?_;rotate_left 1
       ·simp only [gA,gS,gZ]; exact rfl
       ·rfl
       (try simp only [Act.put]);try simp only [sA,sZ,sS]
       refine rS 13 ?_ ?_ ?_ ?_;rotate_left 1
       ·simp only [gA,gS,gZ]; exact rfl
       ·rfl
       (try simp only [Act.put]);try simp only [sA,sZ,sS]
       refine rS 14 ?_ ?_ ?_ ?_;rotate_left 1
       ·simp only [gA,gS,gZ]; exact rfl
       ·rfl
       (try simp only [Act.put]);try simp only [sA,sZ,sS]
       refine rS 15 ?_ ?_ ?_ ?_;rotate_left 1
       ·simp only [gA,gS,gZ]; exact rfl
       ·rfl
       (try simp only [Act.put]);try simp only [sA,sZ,sS]
       refine rS 16 ?_ ?_ ?_ ?_;rotate_left 1
       ·simp only [gA,gS,gZ]; exact rfl
       ·rfl
       (try simp only [Act.put]);try simp only [sA,sZ,sS]
       refine rS 17 ?_ ?_ ?_ ?_;rotate_left 1
       ·simp only [gA,gS,gZ]; exact rfl
       ·rfl
       (try simp only [Act.put]);try simp only [sA,sZ,sS]
       refine rS 18 ?_ ?_ ?_ ?_;rotate_left 1
       ·simp only [gA,gS,gZ]; exact rfl
       ·rfl
       (try simp only [Act.put]);try simp only [sA,sZ,sS]
       refine rU 19 _ _ ?_
       (try simp only [Act.put]);try simp only [sA,sZ,sS]
       refine wpAnyH_done (by kernel_rfl) ?_ _
       refine NoPanic.normal ?_
       go_wp2
       go_roundw
       case rel => exact ⟨1 + 1, vi, by omega, by go_num, by rw [show innerM P S (p0, p1) T (1 + 1) us = innerM P S (p0, p1) T 1 us from by rw [HSTEP.out, if_neg (fun h => by cases h.1)]]; exact HHI.out.below (Below.refl wr.heap.size wr).drew', HKI.out.trans (KeepH.of_below (Below.refl wr.heap.size wr).drew'), HBI.out.trans (((Below.refl wr.heap.size wr).drew').mono HBI.out.size)⟩
       case measure => simp [intOf]
     ·obtain ⟨u, hu, hul⟩ := HN.out t T HT.out 2 (by omega)
      obtain ⟨U, hU⟩ : ∃ U, S[u]? = some U := ⟨_, List.getElem?_eq_getElem hul⟩
      rw [HTT.out] at hu
      obtain rfl : n2 = (u : Int) := hu
      have hnu : T.n 2 = (u : Int) := by rw [HTT.out]; rfl
      have hfi : T.f 2 = f2 := by rw [HTT.out]; rfl
      have hct : confT P S (p0, p1) (u : Int) = conflictM P U (p0, p1) := by unfold confT; rw [Int.toNat_natCast, hU]
      have htk : takeS P S (u : Int) (innerM P S (p0, p1) T 2 us) = takeM P U (u : Int) (innerM P S (p0, p1) T 2 us) := by unfold takeS; rw [Int.toNat_natCast, hU]
      have hur : -1000000 ≤ (u : Int) ∧ (u : Int) ≤ 1000000 := by have := HMX.out; omega
      have HSTEP := Lib.hid (show innerM P S (p0, p1) T (2 + 1) us = if f2 = false ∧ (u : Int) ∉ innerM P S (p0, p1) T 2 us ∧ conflictM P U (p0, p1) = true then takeM P U (u : Int) (innerM P S (p0, p1) T 2 us) else innerM P S (p0, p1) T 2 us by
       show stepM P S (p0, p1) T 2 (innerM P S (p0, p1) T 2 us) = _
       unfold stepM; rw [hnu, hfi, hct, htk])
      have HU := Lib.hid hU
      obtain ⟨q1, hq1⟩ : ∃ q, decide ((u : Int) ∈ innerM P S (p0, p1) T 2 us) = q := ⟨_, rfl⟩
      obtain ⟨q2, hq2⟩ : ∃ q, conflictM P U (p0, p1) = q := ⟨_, rfl⟩
      have HHO := Lib.hid (show ∀ W : World, Below wr.heap.size wr W → Calls Tryz.prog 105 #[.pointer (some ⟨hb, 0, none⟩), .int .i64 (u : Int)] W fun e w' => e = .returned (.bool q1) ∧ Below W.heap.size W w' from fun W hW => by have := cvHolds_any hb b _ (u : Int) W (HHI.out.below hW).box.c2 (HHI.out.below hW).map hur; rw [hq1] at this; exact this)
      have HCO := Lib.hid (show ∀ W : World, Below wr.heap.size wr W → Calls Tryz.prog 19 #[.pointer (some ⟨mb, 0, none⟩), .int .i64 (u : Int), .agg #[.int .i64 p0, .int .i64 p1]] W fun e w' => e = .returned (.bool q2) ∧ Below W.heap.size W w' from fun W hW => by have := cvConflict_any u U p0 p1 W (H.out.below (HBI.out.trans (hW.mono HBI.out.size))) HP.out HPP.out HU.out; rw [hq2] at this; exact this)
      have HQ1 := Lib.hid hq1; have HQ2 := Lib.hid hq2
      have K8 := Lib.hid (show ∀ w' : World, Below wr.heap.size wr w' → w'.cell? ⟨hb, 0, none⟩ = some (.pointer (some ⟨mb, 0, none⟩)) ∧ w'.cell? ⟨w.heap.size, 0, none⟩ = some (.int .i64 p0) ∧ w'.cell? ⟨w.heap.size, 1, none⟩ = some (.int .i64 p1) ∧ w'.cell? ⟨wd.heap.size, 8, none⟩ = some (.bool f2) from fun w' hw => ⟨(HHI.out.below hw).box.c0, (PPI.out.below hw).c 0 _ rfl, (PPI.out.below hw).c 1 _ rfl, (PTI.out.below hw).c 8 _ rfl⟩)
      have ir : ∀ w : World, (Instr.index 34 (.agg #[.int .i64 n0, .int .i64 n1, .int .i64 (u : Int)]) (.int .i64 2)).run Tryz.prog w = .ok (.int .i64 (u : Int)) w := fun w => index3v_run ⟨n0, n1, (u : Int), 0, 0, 0, false, false, false⟩ 2 (by omega) w
      clear hul hU hnu hfi hct htk hur hq1 hq2
      cases f2
      ·cases q1
       ·have HNI := Lib.hid (of_decide_eq_false HQ1.out)
        cases q2
        ·go_wp2
         refine wp_region_noPanic ?_
         refine wp_region_held_drew (S := fun w' => w'.cell? ⟨hb, 0, none⟩ = some (.pointer (some ⟨mb, 0, none⟩)) ∧ w'.cell? ⟨w.heap.size, 0, none⟩ = some (.int .i64 p0) ∧ w'.cell? ⟨w.heap.size, 1, none⟩ = some (.int .i64 p1) ∧ w'.cell? ⟨wd.heap.size, 8, none⟩ = some (.bool false)) (by kernel_rfl) (K8.out _ (Below.refl _ _).drew') (fun hHeld => ?_)
         refine rU 0 _ _ ?_
         (try simp only [Act.put]);try simp only [sA,sZ,sS]
         refine rU 1 _ _ ?_
         (try simp only [Act.put]);try simp only [sA,sZ,sS]
         refine rU 2 _ _ ?_
         (try simp only [Act.put]);try simp only [sA,sZ,sS]
         refine rU 3 _ _ ?_
         (try simp only [Act.put]);try simp only [sA,sZ,sS]
         refine rU 4 _ _ ?_
         (try simp only [Act.put]);try simp only [sA,sZ,sS]
         refine rU 5 _ _ ?_
         (try simp only [Act.put]);try simp only [sA,sZ,sS]
         refine rU 6 _ _ ?_
         (try simp only [Act.put]);try simp only [sA,sZ,sS]
         refine rU 7 _ _ ?_
         (try simp only [Act.put]);try simp only [sA,sZ,sS]
         refine reg_call 8 ?_ (by kernel_rfl) ?_ (fun K hK => ?_);rotate_left 1
         ·simp only [gA,gS,gZ]; exact rfl
         go_simp
         refine (HHO.out _ (Below.refl _ _).drew').mono ?_
         rintro e w7 ⟨rfl, hb7⟩
         have HB7 := Lib.hid ((Below.refl wr.heap.size wr).drew'.trans hb7); clear hb7
         refine hK.out _ _ (K8.out _ HB7.out) (fun hHeld => ?_)
         clear hK K
         (try simp only [Act.put]);try simp only [sA,sZ,sS]
         refine rU 9 _ _ ?_
         (try simp only [Act.put]);try simp only [sA,sZ,sS]
         refine rU 10 _ _ ?_
         (try simp only [Act.put]);try simp only [sA,sZ,sS]
         refine rU 11 _ _ ?_
         (try simp only [Act.put]);try simp only [sA,sZ,sS]
         refine rU 12 _ _ ?_
         (try simp only [Act.put]);try simp only [sA,sZ,sS]
         refine rU 13 _ _ ?_
         (try simp only [Act.put]);try simp only [sA,sZ,sS]
         refine rU 14 _ _ ?_
         (try simp only [Act.put]);try simp only [sA,sZ,sS]
         refine rU 15 _ _ ?_
         (try simp only [Act.put]);try simp only [sA,sZ,sS]
         refine rU 16 _ _ ?_
         (try simp only [Act.put]);try simp only [sA,sZ,sS]
         refine rU 17 _ _ ?_
         (try simp only [Act.put]);try simp only [sA,sZ,sS]
         refine reg_call 18 ?_ (by kernel_rfl) ?_ (fun K hK => ?_);rotate_left 1
         ·simp only [gA,gS,gZ]; exact rfl
         go_simp
         refine (HCO.out _ HB7.out).mono ?_
         rintro e w8 ⟨rfl, hb8⟩
         have HB8 := Lib.hid (HB7.out.trans (hb8.mono HB7.out.size)); clear hb8
         refine hK.out _ _ (K8.out _ HB8.out) (fun hHeld => ?_)
         clear hK K
         (try simp only [Act.put]);try simp only [sA,sZ,sS]
         refine rU 19 _ _ ?_
         (try simp only [Act.put]);try simp only [sA,sZ,sS]
         refine wpAnyH_done (by kernel_rfl) ?_ _
         refine NoPanic.normal ?_
         go_wp2
         go_roundw
         case rel => exact ⟨2 + 1, vi, by omega, by go_num, by rw [show innerM P S (p0, p1) T (2 + 1) us = innerM P S (p0, p1) T 2 us from by rw [HSTEP.out, HQ2.out]; simp]; exact HHI.out.below HB8.out, HKI.out.trans (KeepH.of_below HB8.out), HBI.out.trans ((HB8.out).mono HBI.out.size)⟩
         case measure => simp [intOf]
        ·go_wp2
         refine wp_region_noPanic ?_
         refine wp_region_held_drew (S := fun w' => w'.cell? ⟨hb, 0, none⟩ = some (.pointer (some ⟨mb, 0, none⟩)) ∧ w'.cell? ⟨w.heap.size, 0, none⟩ = some (.int .i64 p0) ∧ w'.cell? ⟨w.heap.size, 1, none⟩ = some (.int .i64 p1) ∧ w'.cell? ⟨wd.heap.size, 8, none⟩ = some (.bool false)) (by kernel_rfl) (K8.out _ (Below.refl _ _).drew') (fun hHeld => ?_)
         refine rU 0 _ _ ?_
         (try simp only [Act.put]);try simp only [sA,sZ,sS]
         refine rU 1 _ _ ?_
         (try simp only [Act.put]);try simp only [sA,sZ,sS]
         refine rU 2 _ _ ?_
         (try simp only [Act.put]);try simp only [sA,sZ,sS]
         refine rU 3 _ _ ?_
         (try simp only [Act.put]);try simp only [sA,sZ,sS]
         refine rU 4 _ _ ?_
         (try simp only [Act.put]);try simp only [sA,sZ,sS]
         refine rU 5 _ _ ?_
         (try simp only [Act.put]);try simp only [sA,sZ,sS]
         refine rU 6 _ _ ?_
         (try simp only [Act.put]);try simp only [sA,sZ,sS]
         refine rU 7 _ _ ?_
         (try simp only [Act.put]);try simp only [sA,sZ,sS]
         refine reg_call 8 ?_ (by kernel_rfl) ?_ (fun K hK => ?_);rotate_left 1
         ·simp only [gA,gS,gZ]; exact rfl
         go_simp
         refine (HHO.out _ (Below.refl _ _).drew').mono ?_
         rintro e w7 ⟨rfl, hb7⟩
         have HB7 := Lib.hid ((Below.refl wr.heap.size wr).drew'.trans hb7); clear hb7
         refine hK.out _ _ (K8.out _ HB7.out) (fun hHeld => ?_)
         clear hK K
         (try simp only [Act.put]);try simp only [sA,sZ,sS]
         refine rU 9 _ _ ?_
         (try simp only [Act.put]);try simp only [sA,sZ,sS]
         refine rU 10 _ _ ?_
         (try simp only [Act.put]);try simp only [sA,sZ,sS]
         refine rU 11 _ _ ?_
         (try simp only [Act.put]);try simp only [sA,sZ,sS]
         refine rU 12 _ _ ?_
         (try simp only [Act.put]);try simp only [sA,sZ,sS]
         refine rU 13 _ _ ?_
         (try simp only [Act.put]);try simp only [sA,sZ,sS]
         refine rU 14 _ _ ?_
         (try simp only [Act.put]);try simp only [sA,sZ,sS]
         refine rU 15 _ _ ?_
         (try simp only [Act.put]);try simp only [sA,sZ,sS]
         refine rU 16 _ _ ?_
         (try simp only [Act.put]);try simp only [sA,sZ,sS]
         refine rU 17 _ _ ?_
         (try simp only [Act.put]);try simp only [sA,sZ,sS]
         refine reg_call 18 ?_ (by kernel_rfl) ?_ (fun K hK => ?_);rotate_left 1
         ·simp only [gA,gS,gZ]; exact rfl
         go_simp
         refine (HCO.out _ HB7.out).mono ?_
         rintro e w8 ⟨rfl, hb8⟩
         have HB8 := Lib.hid (HB7.out.trans (hb8.mono HB7.out.size)); clear hb8
         refine hK.out _ _ (K8.out _ HB8.out) (fun hHeld => ?_)
         clear hK K
         (try simp only [Act.put]);try simp only [sA,sZ,sS]
         refine rU 19 _ _ ?_
         (try simp only [Act.put]);try simp only [sA,sZ,sS]
         refine wpAnyH_done (by kernel_rfl) ?_ _
         refine NoPanic.normal ?_
         go_wp2_with fail
         refine (cvTake_any u U w8 H.out (HBI.out.trans (HB8.out.mono HBI.out.size)) (HHI.out.below HB8.out) HU.out (by have := (HI.out.inner P (p0, p1) (HN.out t T HT.out) 2 (by omega)).le; have := HMX.out; omega)).mono ?_
         rintro e w9 ⟨rfl, ⟨v9, hh9, hk9⟩, hb9⟩
         have HH9 := Lib.hid hh9; have HK9 := Lib.hid (HKI.out.trans ((KeepH.of_below HB8.out).trans hk9)); have HB9 := Lib.hid hb9
         clear hh9 hk9 hb9
         go_wp2
         go_roundw
         case rel => exact ⟨2 + 1, v9, by omega, by go_num, by rw [show innerM P S (p0, p1) T (2 + 1) us = takeM P U (u : Int) (innerM P S (p0, p1) T 2 us) from by rw [HSTEP.out, HQ2.out, if_pos (by refine ⟨?_, HNI.out, ?_⟩ <;> trivial)]]; exact HH9.out, HK9.out, HB9.out⟩
         case measure => simp [intOf]
       ·have HYI := Lib.hid (of_decide_eq_true HQ1.out)
        go_wp2
        refine wp_region_noPanic ?_
        refine wp_region_held_drew (S := fun w' => w'.cell? ⟨hb, 0, none⟩ = some (.pointer (some ⟨mb, 0, none⟩)) ∧ w'.cell? ⟨w.heap.size, 0, none⟩ = some (.int .i64 p0) ∧ w'.cell? ⟨w.heap.size, 1, none⟩ = some (.int .i64 p1) ∧ w'.cell? ⟨wd.heap.size, 8, none⟩ = some (.bool false)) (by kernel_rfl) (K8.out _ (Below.refl _ _).drew') (fun hHeld => ?_)
        refine rU 0 _ _ ?_
        (try simp only [Act.put]);try simp only [sA,sZ,sS]
        refine rU 1 _ _ ?_
        (try simp only [Act.put]);try simp only [sA,sZ,sS]
        refine rU 2 _ _ ?_
        (try simp only [Act.put]);try simp only [sA,sZ,sS]
        refine rU 3 _ _ ?_
        (try simp only [Act.put]);try simp only [sA,sZ,sS]
        refine rU 4 _ _ ?_
        (try simp only [Act.put]);try simp only [sA,sZ,sS]
        refine rU 5 _ _ ?_
        (try simp only [Act.put]);try simp only [sA,sZ,sS]
        refine rU 6 _ _ ?_
        (try simp only [Act.put]);try simp only [sA,sZ,sS]
        refine rU 7 _ _ ?_
        (try simp only [Act.put]);try simp only [sA,sZ,sS]
        refine reg_call 8 ?_ (by kernel_rfl) ?_ (fun K hK => ?_);rotate_left 1
        ·simp only [gA,gS,gZ]; exact rfl
        go_simp
        refine (HHO.out _ (Below.refl _ _).drew').mono ?_
        rintro e w7 ⟨rfl, hb7⟩
        have HB7 := Lib.hid ((Below.refl wr.heap.size wr).drew'.trans hb7); clear hb7
        refine hK.out _ _ (K8.out _ HB7.out) (fun hHeld => ?_)
        clear hK K
        (try simp only [Act.put]);try simp only [sA,sZ,sS]
        refine rU 9 _ _ ?_
        (try simp only [Act.put]);try simp only [sA,sZ,sS]
        refine rU 10 _ _ ?_
        (try simp only [Act.put]);try simp only [sA,sZ,sS]
        refine rU 11 _ _ ?_
        (try simp only [Act.put]);try simp only [sA,sZ,sS]
        refine rS 12 ?_ ?_ ?_ ?_;rotate_left 1
        ·simp only [gA,gS,gZ]; exact rfl
        ·rfl
        (try simp only [Act.put]);try simp only [sA,sZ,sS]
        refine rS 13 ?_ ?_ ?_ ?_;rotate_left 1
        ·simp only [gA,gS,gZ]; exact rfl
        ·rfl
        (try simp only [Act.put]);try simp only [sA,sZ,sS]
        refine rS 14 ?_ ?_ ?_ ?_;rotate_left 1
        ·simp only [gA,gS,gZ]; exact rfl
        ·rfl
        (try simp only [Act.put]);try simp only [sA,sZ,sS]
        refine rS 15 ?_ ?_ ?_ ?_;rotate_left 1
        ·simp only [gA,gS,gZ]; exact rfl
        ·rfl
        (try simp only [Act.put]);try simp only [sA,sZ,sS]
        refine rS 16 ?_ ?_ ?_ ?_;rotate_left 1
        ·simp only [gA,gS,gZ]; exact rfl
        ·rfl
        (try simp only [Act.put]);try simp only [sA,sZ,sS]
        refine rS 17 ?_ ?_ ?_ ?_;rotate_left 1
        ·simp only [gA,gS,gZ]; exact rfl
        ·rfl
        (try simp only [Act.put]);try simp only [sA,sZ,sS]
        refine rS 18 ?_ ?_ ?_ ?_;rotate_left 1
        ·simp only [gA,gS,gZ]; exact rfl
        ·rfl
        (try simp only [Act.put]);try simp only [sA,sZ,sS]
        refine rU 19 _ _ ?_
        (try simp only [Act.put]);try simp only [sA,sZ,sS]
        refine wpAnyH_done (by kernel_rfl) ?_ _
        refine NoPanic.normal ?_
        go_wp2
        go_roundw
        case rel => exact ⟨2 + 1, vi, by omega, by go_num, by rw [show innerM P S (p0, p1) T (2 + 1) us = innerM P S (p0, p1) T 2 us from by rw [HSTEP.out, if_neg (fun h => h.2.1 HYI.out)]]; exact HHI.out.below HB7.out, HKI.out.trans (KeepH.of_below HB7.out), HBI.out.trans ((HB7.out).mono HBI.out.size)⟩
        case measure => simp [intOf]
      ·go_wp2
       refine wp_region_noPanic ?_
       refine wp_region_held_drew (S := fun w' => w'.cell? ⟨hb, 0, none⟩ = some (.pointer (some ⟨mb, 0, none⟩)) ∧ w'.cell? ⟨w.heap.size, 0, none⟩ = some (.int .i64 p0) ∧ w'.cell? ⟨w.heap.size, 1, none⟩ = some (.int .i64 p1) ∧ w'.cell? ⟨wd.heap.size, 8, none⟩ = some (.bool true)) (by kernel_rfl) (K8.out _ (Below.refl _ _).drew') (fun hHeld => ?_)
       refine rU 0 _ _ ?_
       (try simp only [Act.put]);try simp only [sA,sZ,sS]
       refine rU 1 _ _ ?_
       (try simp only [Act.put]);try simp only [sA,sZ,sS]
       refine rU 2 _ _ ?_
       (try simp only [Act.put]);try simp only [sA,sZ,sS]
       refine rU 3 _ _ ?_
       (try simp only [Act.put]);try simp only [sA,sZ,sS]
       refine rU 4 _ _ ?_
       (try simp only [Act.put]);try simp only [sA,sZ,sS]
       refine rU 5 _ _ ?_
       (try simp only [Act.put]);try simp only [sA,sZ,sS]
       refine rS 6 ?_ ?_ ?_ ?_;rotate_left 1
       ·simp only [gA,gS,gZ]; exact rfl
       ·rfl
       (try simp only [Act.put]);try simp only [sA,sZ,sS]
       refine rS 7 ?_ ?_ ?_ ?_;rotate_left 1
       ·simp only [gA,gS,gZ]; exact rfl
       ·rfl
       (try simp only [Act.put]);try simp only [sA,sZ,sS]
       refine rS 8 ?_ ?_ ?_ ?_;rotate_left 1
       ·simp only [gA,gS,gZ]; exact rfl
       ·rfl
       (try simp only [Act.put]);try simp only [sA,sZ,sS]
       refine rS 9 ?_ ?_ ?_ ?_;rotate_left 1
       ·simp only [gA,gS,gZ]; exact rfl
       ·rfl
       (try simp only [Act.put]);try simp only [sA,sZ,sS]
       refine rU 10 _ _ ?_
       (try simp only [Act.put]);try simp only [sA,sZ,sS]
       refine rU 11 _ _ ?_
       (try simp only [Act.put]);try simp only [sA,sZ,sS]
       refine rS 12 ?_ ?_ ?_ ?_;rotate_left 1
       ·simp only [gA,gS,gZ]; exact rfl
       ·rfl
       (try simp only [Act.put]);try simp only [sA,sZ,sS]
       refine rS 13 ?_ ?_ ?_ ?_;rotate_left 1
       ·simp only [gA,gS,gZ]; exact rfl
       ·rfl
       (try simp only [Act.put]);try simp only [sA,sZ,sS]
       refine rS 14 ?_ ?_ ?_ ?_;rotate_left 1
       ·simp only [gA,gS,gZ]; exact rfl
       ·rfl
       (try simp only [Act.put]);try simp only [sA,sZ,sS]
       refine rS 15 ?_ ?_ ?_ ?_;rotate_left 1
       ·simp only [gA,gS,gZ]; exact rfl
       ·rfl
       (try simp only [Act.put]);try simp only [sA,sZ,sS]
       refine rS 16 ?_ ?_ ?_ ?_;rotate_left 1
       ·simp only [gA,gS,gZ]; exact rfl
       ·rfl
       (try simp only [Act.put]);try simp only [sA,sZ,sS]
       refine rS 17 ?_ ?_ ?_ ?_;rotate_left 1
       ·simp only [gA,gS,gZ]; exact rfl
       ·rfl
       (try simp only [Act.put]);try simp only [sA,sZ,sS]
       refine rS 18 ?_ ?_ ?_ ?_;rotate_left 1
       ·simp only [gA,gS,gZ]; exact rfl
       ·rfl
       (try simp only [Act.put]);try simp only [sA,sZ,sS]
       refine rU 19 _ _ ?_
       (try simp only [Act.put]);try simp only [sA,sZ,sS]
       refine wpAnyH_done (by kernel_rfl) ?_ _
       refine NoPanic.normal ?_
       go_wp2
       go_roundw
       case rel => exact ⟨2 + 1, vi, by omega, by go_num, by rw [show innerM P S (p0, p1) T (2 + 1) us = innerM P S (p0, p1) T 2 us from by rw [HSTEP.out, if_neg (fun h => by cases h.1)]]; exact HHI.out.below (Below.refl wr.heap.size wr).drew', HKI.out.trans (KeepH.of_below (Below.refl wr.heap.size wr).drew'), HBI.out.trans (((Below.refl wr.heap.size wr).drew').mono HBI.out.size)⟩
       case measure => simp [intOf]
    ·obtain rfl : i = 3 := by omega
     have hsp := spreadM_on (fuel := len - (n + 1)) P S (p0, p1) HZ.out HT.out
     have hin3 := HI.out.inner P (p0, p1) (HN.out t T HT.out) 3 (by omega)
     have hgr := inner_grows P S (p0, p1) T us 3
     rw [show len - (n + 1) + 1 = len - n by (have := HUL.out; omega), HRR.out] at hsp
     have FIN := Lib.hid (And.intro hsp.symm (And.intro hin3 (show n + 1 ≤ (innerM P S (p0, p1) T 3 us).length by have := HUL.out; omega)))
     clear hsp hin3 hgr
     go_wp2
     have hul9 := HUL.out
     exact ⟨⟨n + 1, _, vi, by go_num, FIN.out.2.2, HHI.out, FIN.out.2.1, FIN.out.1, (HK.out.trans (KeepH.of_below HB5.out)).trans HKI.out, HBI.out⟩, by simp [intOf]; omega⟩
  ·obtain rfl : n = ul := by omega
   have FIN := Lib.hid (And.intro hh hbw)
   have HRE := Lib.hid (show us = R by rw [← hr, spreadM_end _ _ _ _ (by omega)])
   have e1 : decide ((n : Int) < (n : Int)) = false := decide_eq_false (by omega)
   clear hh hin hr hk hbw hul
   go_wp2
   go_end0
   exact ⟨rfl, ⟨_, by rw [← HRE.out]; exact FIN.out.1⟩, FIN.out.2⟩
end Go.Proofs.YtnabdopnlinklaaGreat
/- What a hole holds behind the spreading: just what can be reached. Pure. -/
namespace Go.Proofs.YtnabdopnlinklaaGreat
open Go.RowKit Go.MagM
/-- What is taken: what is there at the beginning, and what is in conflict across an edge that is no fault. -/
inductive Reach (S : List TriM) (conf : Int → Bool) (st : List Int) : Int → Prop
 | base {t : Int} : t ∈ st → Reach S conf st t
 | step {t i : Nat} {T : TriM} : Reach S conf st (t : Int) → S[t]? = some T → i < 3 → T.f i = false → conf (T.n i) = true → Reach S conf st (T.n i)
/-- A list that has all that lies beside what it has. -/
def Closed (S : List TriM) (conf : Int → Bool) (us : List Int) : Prop := ∀ (t i : Nat) (T : TriM), (t : Int) ∈ us → S[t]? = some T → i < 3 → T.f i = false → conf (T.n i) = true → T.n i ∈ us
theorem Closed.reach {S : List TriM} {conf : Int → Bool} {st us : List Int} (h : Closed S conf us) (hs : ∀ t ∈ st, t ∈ us) : ∀ {x}, Reach S conf st x → x ∈ us := by
 intro x hx
 induction hx with
 | base ht => exact hs _ ht
 | step _ hT hi hf hc ih => exact h _ _ _ ih hT hi hf hc
/-- All triangles have a corner that is a point. -/
def Cornered (P : List (Int × Int)) (S : List TriM) : Prop := ∀ (t : Nat) (T : TriM), S[t]? = some T → 0 < (cors P T).length
section
variable {P : List (Int × Int)} {S : List TriM} {p : Int × Int}
theorem takeM_mem {U : TriM} {u : Int} {ts : List Int} (h : 0 < (cors P U).length) : u ∈ takeM P U u ts := by
 unfold takeM
 by_cases hm : u ∈ ts
 ·rw [if_neg (fun k => k.2 hm)]; exact hm
 ·rw [if_pos ⟨h, hm⟩]; simp
theorem takeM_pre (P : List (Int × Int)) (U : TriM) (u : Int) (ts : List Int) : ∃ k, takeM P U u ts = ts ++ k ∧ ∀ x ∈ k, x = u := by
 unfold takeM; split
 ·exact ⟨[u], rfl, by simp⟩
 ·exact ⟨[], by simp, by simp⟩
theorem stepM_pre (P : List (Int × Int)) (S : List TriM) (p : Int × Int) (T : TriM) (i : Nat) (ts : List Int) : ∃ k, stepM P S p T i ts = ts ++ k ∧ ∀ x ∈ k, x = T.n i ∧ T.f i = false ∧ confT P S p (T.n i) = true := by
 unfold stepM; split
 ·rename_i hc
  unfold takeS; split
  ·obtain ⟨k, h1, h2⟩ := takeM_pre P _ (T.n i) ts
   exact ⟨k, h1, fun x hx => ⟨h2 x hx, hc.1, hc.2.2⟩⟩
  ·exact ⟨[], by simp, by simp⟩
 ·exact ⟨[], by simp, by simp⟩
theorem inner_pre (P : List (Int × Int)) (S : List TriM) (p : Int × Int) (T : TriM) (ts : List Int) : ∀ n, n ≤ 3 → ∃ k, innerM P S p T n ts = ts ++ k ∧ ∀ x ∈ k, ∃ i, i < 3 ∧ x = T.n i ∧ T.f i = false ∧ confT P S p (T.n i) = true
 | 0, _ => ⟨[], by simp [innerM], by simp⟩
 | n + 1, hn => by
  obtain ⟨k, h1, h2⟩ := inner_pre P S p T ts n (by omega)
  obtain ⟨k', h3, h4⟩ := stepM_pre P S p T n (innerM P S p T n ts)
  refine ⟨k ++ k', by rw [innerM, h3, h1, List.append_assoc], fun x hx => ?_⟩
  rcases List.mem_append.1 hx with hx | hx
  ·exact h2 x hx
  ·exact ⟨n, by omega, h4 x hx⟩
theorem step_has (hN : Nexts S) (hC : Cornered P S) {t : Nat} {T : TriM} (hT : S[t]? = some T) {i : Nat} (hi : i < 3) (hf : T.f i = false) (hc : confT P S p (T.n i) = true) (ts : List Int) : T.n i ∈ stepM P S p T i ts := by
 by_cases hm : T.n i ∈ ts
 ·obtain ⟨k, h1, -⟩ := stepM_pre P S p T i ts
  rw [h1]; exact List.mem_append_left _ hm
 ·obtain ⟨u, hu, hul⟩ := hN t T hT i hi
  unfold stepM
  rw [if_pos ⟨hf, hm, hc⟩]
  unfold takeS
  rw [hu, Int.toNat_natCast, List.getElem?_eq_getElem hul]
  exact takeM_mem (hC u _ (List.getElem?_eq_getElem hul))
theorem inner_has (hN : Nexts S) (hC : Cornered P S) {t : Nat} {T : TriM} (hT : S[t]? = some T) (ts : List Int) {i : Nat} (hf : T.f i = false) (hc : confT P S p (T.n i) = true) : ∀ n, n ≤ 3 → i < n → T.n i ∈ innerM P S p T n ts
 | 0, _, h => by omega
 | n + 1, hn, h => by
  rw [innerM]
  rcases Nat.lt_or_ge i n with g | g
  ·obtain ⟨k, h1, -⟩ := stepM_pre P S p T n (innerM P S p T n ts)
   rw [h1]; exact List.mem_append_left _ (inner_has hN hC hT ts hf hc n (by omega) g)
  ·obtain rfl : i = n := by omega
   exact step_has hN hC hT (by omega) hf hc _
/-- The first n of a list have their neighbours in it. -/
def ClosedN (P : List (Int × Int)) (S : List TriM) (p : Int × Int) (us : List Int) (n : Nat) : Prop := ∀ j, j < n → ∀ (t i : Nat) (T : TriM), us[j]? = some (t : Int) → S[t]? = some T → i < 3 → T.f i = false → confT P S p (T.n i) = true → T.n i ∈ us
theorem spread_is (hN : Nexts S) (hC : Cornered P S) {st : List Int} : ∀ (fuel n : Nat) (us : List Int), InS S us → n ≤ us.length → S.length ≤ fuel + n → ClosedN P S p us n → (∀ x ∈ us, Reach S (confT P S p) st x) → (∀ x ∈ st, x ∈ us) →
  InS S (spreadM P S p fuel n us) ∧ Closed S (confT P S p) (spreadM P S p fuel n us) ∧ (∀ x ∈ spreadM P S p fuel n us, Reach S (confT P S p) st x) ∧ (∀ x ∈ st, x ∈ spreadM P S p fuel n us)
 | 0, n, us, hI, hn, hf, hcl, hr, hs => by
  rw [spreadM]
  refine ⟨hI, fun t i T ht hT hi h1 h2 => ?_, hr, hs⟩
  obtain ⟨j, hj⟩ := List.mem_iff_getElem?.1 ht
  have := hI.le
  have := (List.getElem?_eq_some_iff.1 hj).1
  exact hcl j (by omega) t i T hj hT hi h1 h2
 | fuel + 1, n, us, hI, hn, hf, hcl, hr, hs => by
  cases hz : us[n]? with
  | none =>
   have hl : us.length ≤ n := List.getElem?_eq_none_iff.1 hz
   rw [spreadM_end P S p _ hl]
   refine ⟨hI, fun t i T ht hT hi h1 h2 => ?_, hr, hs⟩
   obtain ⟨j, hj⟩ := List.mem_iff_getElem?.1 ht
   have := (List.getElem?_eq_some_iff.1 hj).1
   exact hcl j (by omega) t i T hj hT hi h1 h2
  | some z =>
   obtain ⟨t, rfl, htl⟩ := hI.is z (List.mem_of_getElem? hz)
   obtain ⟨T, hT⟩ : ∃ T, S[t]? = some T := ⟨_, List.getElem?_eq_getElem htl⟩
   rw [spreadM_on P S p hz hT]
   have hI' := hI.inner P p (hN t T hT) 3 (by omega)
   obtain ⟨k, hk, hk2⟩ := inner_pre P S p T us 3 (by omega)
   have hnl := (List.getElem?_eq_some_iff.1 hz).1
   refine spread_is hN hC fuel (n + 1) _ hI' (by rw [hk, List.length_append]; omega) (by omega) ?_ ?_ ?_
   ·intro j hj t' i T' hj' hT' hi h1 h2
    rcases Nat.lt_or_ge j n with g | g
    ·rw [hk, List.getElem?_append_left (by omega)] at hj'
     rw [hk]; exact List.mem_append_left _ (hcl j g t' i T' hj' hT' hi h1 h2)
    ·obtain rfl : j = n := by omega
     rw [hk, List.getElem?_append_left hnl, hz] at hj'
     have e0 : (t : Int) = (t' : Int) := by simpa using hj'
     have e : t = t' := by omega
     subst e
     rw [hT] at hT'; cases hT'
     exact inner_has hN hC hT us h1 h2 3 (by omega) hi
   ·intro x hx
    rw [hk] at hx
    rcases List.mem_append.1 hx with hx | hx
    ·exact hr x hx
    ·obtain ⟨i, hi, rfl, h1, h2⟩ := hk2 x hx
     exact .step (hr _ (List.mem_of_getElem? hz)) hT hi h1 h2
   ·intro x hx
    rw [hk]; exact List.mem_append_left _ (hs x hx)
/-- What a hole holds. -/
theorem spread_reach (hN : Nexts S) (hC : Cornered P S) {st : List Int} (hI : InS S st) : InS S (spreadM P S p S.length 0 st) ∧ ∀ x, x ∈ spreadM P S p S.length 0 st ↔ Reach S (confT P S p) st x := by
 obtain ⟨h1, h2, h3, h4⟩ := spread_is (p := p) (st := st) hN hC S.length 0 st hI (Nat.zero_le _) (by omega) (fun j hj => by omega) (fun x hx => .base hx) (fun x hx => hx)
 exact ⟨h1, fun x => ⟨h3 x, fun hx => h2.reach h4 hx⟩⟩
end
end Go.Proofs.YtnabdopnlinklaaGreat
/- The statements' Grid, 1 by 1. -/
namespace Go.Proofs.YtnabdopnlinklaaGreat
open Go.RowKit Go.MagM
set_option maxRecDepth 100000 in
set_option maxHeartbeats 16000000 in
theorem Grid11_any (w0 h0 b f : Int) (bn : Nat) (hbn : bn < 16) (e1 : bits .and .i64 w0 1 = 0) (e2 : bits .and .i64 h0 1 = 0) (hbit : ∀ k : Nat, k < 4 → bitB b k = bn.testBit k) (w : World) :
  Calls Tryz.prog 34 #[.int .i64 w0, .int .i64 h0, .int .u32 b, .int .u32 f] w fun e w' => ∃ (mb g c : Nat) (F : Int → Int → Bool), e = .returned (.tuple #[.pointer (some ⟨mb, 0, none⟩), .slice (some ⟨g, 0, none⟩) 2 c]) ∧ BuildEnd 24 37 F w.heap.size (gridP 1 1) (gridT 1 1 bn) mb w' ∧ TrIn w' g ((gridT 1 1 bn).map realV) ∧ w.heap.size ≤ g ∧ Below w.heap.size w w' := by
 have ok := grid_ok (w := 1) (h := 1) (by omega) (by omega) hbn
 have hm := grid_has (w := 1) (h := 1) (by omega) (by omega) hbn
 have hps : InPs (gridP 1 1) := grid_inPs (by omega) (by omega)
 have OK := Lib.hid ok; have HM := Lib.hid hm; have HPS := Lib.hid hps; have HBIT := Lib.hid hbit
 clear ok hm hps hbit
 obtain ⟨i0, hi, hz0, hz1, hz2⟩ := info_parts infoPt
 have HI := Lib.hid hi; have HZ0 := Lib.hid hz0; have HZ1 := Lib.hid hz1; have HZ2 := Lib.hid hz2
 obtain ⟨j0, hj, hy0, hy1, hy2⟩ := info_parts infoE3
 have HJ := Lib.hid hj; have HY0 := Lib.hid hy0; have HY1 := Lib.hid hy1; have HY2 := Lib.hid hy2
 clear hi hz0 hz1 hz2 hj hy0 hy1 hy2
 obtain ⟨w1, hw1, pw0, hB1, hs1⟩ := new_box w _ rfl [.int .i64 w0] 3
 have sc := pw0.c 0 _ rfl; have sf := pw0.f 0 _ rfl
 obtain ⟨w2, hw2⟩ : ∃ w2, w1.setCell ⟨w.heap.size, 0, none⟩ (.int .i64 1) = w2 := ⟨_, rfl⟩
 have pw2 : Box w2 w.heap.size [.int .i64 1] := by rw [← hw2]; exact pw0.set 0 (.int .i64 1)
 have hB2 : Below w.heap.size w w2 := by rw [← hw2]; exact hB1.setCell (p := ⟨w.heap.size, 0, none⟩) (by simp only []; omega) _
 have hz2 : w.heap.size + 1 ≤ w2.heap.size := by have := pw2.lt; omega
 have PW2 := Lib.hid pw2; have HB2 := Lib.hid hB2; have HZS := Lib.hid hz2
 clear pw0 hB1 hs1 pw2 hB2 hz2
 go_enter Tryz.func34, Tryz.ntmps34
 go_wp2
 clear sc sf hw1 hw2
 go_loopw [10, 11, 12, 35] (fun pv _ _ iv wr => ∃ (y : Nat) (vv : Value), y ≤ 2 ∧ iv = .int .i64 (y : Int) ∧ vv = pv ∧ RowN wr (w.heap.size + 1) 24 2 vv (y * 2) (ptsCells ((gridP 1 1).take (y * 2))) ∧ Box wr w.heap.size [.int .i64 1] ∧ Below w.heap.size w wr ∧ w.heap.size + 1 ≤ wr.heap.size) (fun _ _ _ iv _ => 2 - (intOf iv).toNat)
 case atStart => exact ⟨0, _, Nat.zero_le _, rfl, rfl, RowN.nil _ _ _ _, PW2.out, HB2.out, HZS.out⟩
 case round =>
  obtain ⟨y, vv, hy, rfl, rfl, hrow, hbx, hbw, hsz⟩ := hrel
  by_cases hlt : y < 2
  ·have hyd : decide ((y : Int) < 2) = true := decide_eq_true (by omega)
   have cw := hbx.c 0 _ rfl
   have HROW := Lib.hid hrow; have HBX := Lib.hid hbx; have HBW := Lib.hid hbw; have HSZ := Lib.hid hsz
   clear hrow hbx hbw hsz
   go_wp2
   clear cw
   go_loopw [10, 12, 40] (fun pv _ iv wr => ∃ (x : Nat) (vv : Value), x ≤ 2 ∧ iv = .int .i64 (x : Int) ∧ vv = pv ∧ RowN wr (w.heap.size + 1) 24 2 vv (y * 2 + x) (ptsCells ((gridP 1 1).take (y * 2 + x))) ∧ Box wr w.heap.size [.int .i64 1] ∧ Below w.heap.size w wr ∧ w.heap.size + 1 ≤ wr.heap.size) (fun _ _ iv _ => 2 - (intOf iv).toNat)
   case atStart => exact ⟨0, _, Nat.zero_le _, rfl, rfl, HROW.out, HBX.out, HBW.out, HSZ.out⟩
   case round =>
    obtain ⟨x, vv, hx, rfl, rfl, hrow, hbx, hbw, hsz⟩ := hrel
    by_cases hlx : x < 2
    ·have hel := gridP_at (w := 1) (h := 1) (by omega) (by omega) (x := x) (y := y) (by omega) (by omega)
     have hx2 : IntKind.i64.wrap (2 * (x : Int)) = 2 * (x : Int) := by rw [IntKind.wrap_i64]; omega
     have hy2 : IntKind.i64.wrap (2 * (y : Int)) = 2 * (y : Int) := by rw [IntKind.wrap_i64]; omega
     obtain ⟨w3, hw3, hpn, hb3, hs3⟩ := new_box wr _ rfl [.int .i64 (2 * (x : Int)), .int .i64 (2 * (y : Int))] 24
     have hrow3 := hrow.below hb3
     have hbx3 := hbx.below hb3
     have hbw3 := hbw.trans (hb3.mono hbw.size)
     obtain ⟨v1, w4, hrun, rown, hgrow, hkept⟩ := run_append_row (P := Tryz.prog) w3 (w.heap.size + 1) 38 38 24 i0 (.agg #[.int .i64 0, .int .i64 0]) 2 16 (by kernel_rfl) HI.out HZ0.out HZ1.out HZ2.out rfl (noWordI2 _ _) _ (y * 2 + x) _ hrow3 ⟨wr.heap.size, 0, none⟩ 1 1 [.int .i64 (2 * (x : Int)), .int .i64 (2 * (y : Int))] (by omega) rfl hpn.news (by intro u hu; simp at hu; rcases hu with rfl | rfl <;> rfl) (noWordI2 _ _) (by unfold maxLen; omega) (by omega) (by omega)
     have hne : ∀ k, vv.ownBlock = some k → w.heap.size + 1 ≤ k := fun k hk => (hrow3.lt k hk).1
     have hbx4 := hbx3.grown hgrow (fun e => by have := hne _ e; omega) hbx3.lt
     have hbw4 : Below w.heap.size w w4 := hbw3.grown hgrow (by omega) (fun k hk => by have := hne k hk; omega)
     have htk : ptsCells ((gridP 1 1).take (y * 2 + x)) ++ [.int .i64 (2 * (x : Int)), .int .i64 (2 * (y : Int))] = ptsCells ((gridP 1 1).take (y * 2 + (x + 1))) := by
      rw [← Nat.add_assoc, List.take_add_one, hel, ptsCells_app]; rfl
     rw [htk] at rown
     have FIN := Lib.hid (And.intro rown (And.intro hbx4 (And.intro hbw4 (show w.heap.size + 1 ≤ w4.heap.size by have := hgrow.size; omega))))
     clear hrow hbx hbw hsz hpn hb3 hs3 hrow3 hbx3 hbw3 rown hgrow hkept hne hbx4 hbw4 htk hel
     go_wp2_with (refine wpList_append_row rfl _ _ 38 rfl rfl rfl hrun ?_)
     have FI := FIN.out
     exact ⟨⟨x + 1, _, by omega, by go_num, rfl, FI.1, FI.2.1, FI.2.2.1, FI.2.2.2⟩, by simp [intOf]; omega⟩
    ·obtain rfl : x = 2 := by omega
     have FIN := Lib.hid (And.intro hrow (And.intro hbx (And.intro hbw hsz)))
     clear hrow hbx hbw hsz
     go_wp2
     have FI := FIN.out
     have hrow := FI.1
     rw [show y * 2 + 2 = (y + 1) * 2 by omega] at hrow
     exact ⟨⟨y + 1, _, by omega, by go_num, rfl, hrow, FI.2.1, FI.2.2.1, FI.2.2.2⟩, by simp [intOf]; omega⟩
  ·obtain rfl : y = 2 := by omega
   have hpt : (gridP 1 1).take (2 * 2) = gridP 1 1 := rfl
   rw [hpt] at hrow
   obtain ⟨gp, gpc, hvv⟩ : ∃ g c, vv = .slice (some ⟨g, 0, none⟩) 4 c := by
    rcases hrow.2 with ⟨h1, h2⟩ | ⟨g, cap, cur, h1, h2, h3⟩
    ·omega
    ·exact ⟨g, cap, h1⟩
   subst hvv
   have hpl := hrow.lt gp rfl
   obtain ⟨w5, hw5⟩ : ∃ w5, w5 = wr := ⟨_, rfl⟩
   rw [← hw5] at hrow hbx hbw hsz hpl
   rw [← hw5]
   have HROW := Lib.hid hrow; have HBX := Lib.hid hbx; have HBW := Lib.hid hbw; have HSZ := Lib.hid hsz; have HPL := Lib.hid hpl
   clear hrow hbx hbw hsz hpl hw5
   go_wp2
   go_loopw [13, 15, 16, 17, 18, 19, 20, 21, 55] (fun tv kv _ _ _ _ _ _ iv wr => ∃ (y : Nat) (vv : Value), y ≤ 1 ∧ iv = .int .i64 (y : Int) ∧ kv = .int .i64 ((y * 1 : Nat) : Int) ∧ vv = tv ∧ RowN wr w5.heap.size 34 3 vv (2 * (y * 1)) (tr3Cells ((gridT 1 1 bn).take (2 * (y * 1)))) ∧ Below w5.heap.size w5 wr) (fun _ _ _ _ _ _ _ _ iv _ => 1 - (intOf iv).toNat)
   case atStart => exact ⟨0, _, Nat.zero_le _, rfl, rfl, rfl, RowN.nil _ _ _ _, Below.refl _ _⟩
   case round =>
    obtain ⟨y, vv, hy, rfl, rfl, rfl, hrow, hbw⟩ := hrel
    by_cases hlt : y < 1
    ·have hyd : decide ((y : Int) < 1) = true := decide_eq_true (by omega)
     have cw := (HBX.out.below hbw).c 0 _ rfl
     have HRW := Lib.hid hrow; have HBZ := Lib.hid hbw
     clear hrow hbw
     go_wp2
     clear cw
     go_loopw [13, 15, 17, 18, 19, 20, 21, 59] (fun tv kv _ _ _ _ _ iv wr => ∃ (x : Nat) (vv : Value), x ≤ 1 ∧ iv = .int .i64 (x : Int) ∧ kv = .int .i64 ((y * 1 + x : Nat) : Int) ∧ vv = tv ∧ RowN wr w5.heap.size 34 3 vv (2 * (y * 1 + x)) (tr3Cells ((gridT 1 1 bn).take (2 * (y * 1 + x)))) ∧ Below w5.heap.size w5 wr) (fun _ _ _ _ _ _ _ iv _ => 1 - (intOf iv).toNat)
     case atStart => exact ⟨0, _, Nat.zero_le _, rfl, by rw [Nat.add_zero], rfl, HRW.out, HBZ.out⟩
     case round =>
      obtain ⟨x, vv, hx, rfl, rfl, rfl, hrow, hbw⟩ := hrel
      by_cases hlx : x < 1
      ·have cw := (HBX.out.below hbw).c 0 _ rfl
       have hev := HM.out.even y x hlt hlx
       have hod := HM.out.odd y x hlt hlx
       have hbt := HBIT.out (y * 1 + x) (by omega)
       obtain ⟨q, hq⟩ : ∃ q, bn.testBit (y * 1 + x) = q := ⟨_, rfl⟩
       rw [hq] at hev hod hbt
       have a0 := gridNo_any w.heap.size 1 x y wr (by omega) (by omega) (by omega) cw ((y : Int) * 2 + (x : Int)) (by omega)
       have a1 := gridNo_any w.heap.size 1 (x + 1) y wr (by omega) (by omega) (by omega) cw ((y : Int) * 2 + ((x : Int) + 1)) (by omega)
       have a2 := gridNo_any w.heap.size 1 (x + 1) (y + 1) wr (by omega) (by omega) (by omega) cw (((y : Int) + 1) * 2 + ((x : Int) + 1)) (by omega)
       have a3 := gridNo_any w.heap.size 1 x (y + 1) wr (by omega) (by omega) (by omega) cw (((y : Int) + 1) * 2 + (x : Int)) (by omega)
       rw [show (((x + 1 : Nat)) : Int) = (x : Int) + 1 by omega] at a1 a2
       rw [show (((y + 1 : Nat)) : Int) = (y : Int) + 1 by omega] at a2 a3
       obtain ⟨ca, hca⟩ : ∃ c : Int, (y : Int) * 2 + (x : Int) = c := ⟨_, rfl⟩
       obtain ⟨cb, hcb⟩ : ∃ c : Int, (y : Int) * 2 + ((x : Int) + 1) = c := ⟨_, rfl⟩
       obtain ⟨cc, hcc⟩ : ∃ c : Int, ((y : Int) + 1) * 2 + ((x : Int) + 1) = c := ⟨_, rfl⟩
       obtain ⟨cd, hcd⟩ : ∃ c : Int, ((y : Int) + 1) * 2 + (x : Int) = c := ⟨_, rfl⟩
       rw [hca] at a0; rw [hcb] at a1; rw [hcc] at a2; rw [hcd] at a3
       have C0 := Lib.hid a0; have C1 := Lib.hid a1; have C2 := Lib.hid a2; have C3 := Lib.hid a3
       have HEV := Lib.hid hev; have HOD := Lib.hid hod; have HBT := Lib.hid hbt; have HRW2 := Lib.hid hrow; have HBZ2 := Lib.hid hbw
       have HCA := Lib.hid hca; have HCB := Lib.hid hcb; have HCC := Lib.hid hcc; have HCD := Lib.hid hcd
       obtain ⟨kk, hkk⟩ : ∃ kk : Nat, y * 1 + x = kk := ⟨_, rfl⟩
       have hkk4 : kk < 4 := by omega
       rw [hkk] at hbt
       unfold bitB at hbt
       have na : (((y * 2 + x : Nat)) : Int) = ca := by omega
       have nb : (((y * 2 + (x + 1) : Nat)) : Int) = cb := by omega
       have nc : ((((y + 1) * 2 + (x + 1) : Nat)) : Int) = cc := by omega
       have nd : ((((y + 1) * 2 + x : Nat)) : Int) = cd := by omega
       have HKK := Lib.hid hkk
       rw [hkk]
       have HNA := Lib.hid (And.intro na (And.intro nb (And.intro nc nd)))
       clear a0 a1 a2 a3 hev hod hrow hbw hca hcb hcc hcd cw hkk na nb nc nd hq
       cases q
       ·have hev' : (gridT 1 1 bn)[2 * (y * 1 + x)]? = some (y * 2 + (x + 1), (y + 1) * 2 + x, y * 2 + x) := HEV.out
        have hod' : (gridT 1 1 bn)[2 * (y * 1 + x) + 1]? = some ((y + 1) * 2 + x, y * 2 + (x + 1), (y + 1) * 2 + (x + 1)) := HOD.out
        have HEV' := Lib.hid hev'; have HOD' := Lib.hid hod'
        clear hev' hod'
        go_wp2_with fail
        refine C0.out.mono ?_
        rintro e w6 ⟨rfl, rfl⟩
        go_wp2_with fail
        refine C1.out.mono ?_
        rintro e w6 ⟨rfl, rfl⟩
        go_wp2_with fail
        refine C2.out.mono ?_
        rintro e w6 ⟨rfl, rfl⟩
        go_wp2_with fail
        refine C3.out.mono ?_
        rintro e w6 ⟨rfl, rfl⟩
        obtain ⟨w6, hw6, hpn, hb6, hs6⟩ := new_box wr _ rfl [.int .i64 cb, .int .i64 cd, .int .i64 ca, .int .i64 cd, .int .i64 cb, .int .i64 cc] 34
        have hrow6 := HRW2.out.below hb6
        have hbw6 := HBZ2.out.trans (hb6.mono HBZ2.out.size)
        obtain ⟨v1, w7, hrun, rown, hgrow, hkept⟩ := run_append_row (P := Tryz.prog) w6 w5.heap.size 78 78 34 j0 (.agg #[.int .i64 0, .int .i64 0, .int .i64 0]) 3 24 (by kernel_rfl) HJ.out HY0.out HY1.out HY2.out rfl (noWordI3 _ _ _) _ (2 * (y * 1 + x)) _ hrow6 ⟨wr.heap.size, 0, none⟩ 2 2 [.int .i64 cb, .int .i64 cd, .int .i64 ca, .int .i64 cd, .int .i64 cb, .int .i64 cc] (by omega) rfl hpn.news (by intro u hu; simp at hu; rcases hu with rfl | rfl | rfl | rfl | rfl | rfl <;> rfl) (noWordI6 _ _ _ _ _ _) (by unfold maxLen; omega) (by omega) (by have := hbw6.size; omega)
        have hbw7 : Below w5.heap.size w5 w7 := hbw6.grown hgrow (by have := hbw6.size; omega) (fun k hk => (hrow6.lt k hk).1)
        have htk : tr3Cells ((gridT 1 1 bn).take (2 * (y * 1 + x))) ++ [.int .i64 cb, .int .i64 cd, .int .i64 ca, .int .i64 cd, .int .i64 cb, .int .i64 cc] = tr3Cells ((gridT 1 1 bn).take (2 * (y * 1 + (x + 1)))) := by
         obtain ⟨na, nb, nc, nd⟩ := HNA.out
         rw [show 2 * (y * 1 + (x + 1)) = 2 * (y * 1 + x) + 1 + 1 by omega, List.take_add_one, List.take_add_one, HEV'.out, HOD'.out, tr3_app, tr3_app, List.append_assoc]
         simp only [Option.toList_some, tr3Cells, na, nb, nc, nd, List.cons_append, List.nil_append]
        rw [htk, show 2 * (y * 1 + x) + 2 = 2 * (y * 1 + (x + 1)) by omega] at rown
        have FIN := Lib.hid (And.intro rown hbw7)
        clear hpn hb6 hs6 hrow6 hbw6 rown hgrow hkept hbw7 htk
        go_wp2_with (refine wpList_append_row rfl _ _ 78 rfl rfl rfl hrun ?_)
        have hkk := HKK.out
        refine ⟨⟨_, _, _, _, _, _, _, _, _, _, _, _, _, _, _, _, _, _, _, _, _, _, _, _, _, _, _, _, _, _, _, _, _, _, _, _, _, _, _, _, _, _, _, _, _, _, _, _, _, _, _, _, _, _, _, _, _, _, _, _, ?_, rfl⟩, by simp [intOf]; omega⟩
        exact ⟨x + 1, _, by omega, by go_num, congrArg (Value.int .i64) (by omega), rfl, FIN.out.1, FIN.out.2⟩
       ·have hev' : (gridT 1 1 bn)[2 * (y * 1 + x)]? = some (y * 2 + x, y * 2 + (x + 1), (y + 1) * 2 + (x + 1)) := HEV.out
        have hod' : (gridT 1 1 bn)[2 * (y * 1 + x) + 1]? = some ((y + 1) * 2 + (x + 1), (y + 1) * 2 + x, y * 2 + x) := HOD.out
        have HEV' := Lib.hid hev'; have HOD' := Lib.hid hod'
        clear hev' hod'
        go_wp2_with fail
        refine C0.out.mono ?_
        rintro e w6 ⟨rfl, rfl⟩
        go_wp2_with fail
        refine C1.out.mono ?_
        rintro e w6 ⟨rfl, rfl⟩
        go_wp2_with fail
        refine C2.out.mono ?_
        rintro e w6 ⟨rfl, rfl⟩
        go_wp2_with fail
        refine C3.out.mono ?_
        rintro e w6 ⟨rfl, rfl⟩
        obtain ⟨w6, hw6, hpn, hb6, hs6⟩ := new_box wr _ rfl [.int .i64 ca, .int .i64 cb, .int .i64 cc, .int .i64 cc, .int .i64 cd, .int .i64 ca] 34
        have hrow6 := HRW2.out.below hb6
        have hbw6 := HBZ2.out.trans (hb6.mono HBZ2.out.size)
        obtain ⟨v1, w7, hrun, rown, hgrow, hkept⟩ := run_append_row (P := Tryz.prog) w6 w5.heap.size 78 78 34 j0 (.agg #[.int .i64 0, .int .i64 0, .int .i64 0]) 3 24 (by kernel_rfl) HJ.out HY0.out HY1.out HY2.out rfl (noWordI3 _ _ _) _ (2 * (y * 1 + x)) _ hrow6 ⟨wr.heap.size, 0, none⟩ 2 2 [.int .i64 ca, .int .i64 cb, .int .i64 cc, .int .i64 cc, .int .i64 cd, .int .i64 ca] (by omega) rfl hpn.news (by intro u hu; simp at hu; rcases hu with rfl | rfl | rfl | rfl | rfl | rfl <;> rfl) (noWordI6 _ _ _ _ _ _) (by unfold maxLen; omega) (by omega) (by have := hbw6.size; omega)
        have hbw7 : Below w5.heap.size w5 w7 := hbw6.grown hgrow (by have := hbw6.size; omega) (fun k hk => (hrow6.lt k hk).1)
        have htk : tr3Cells ((gridT 1 1 bn).take (2 * (y * 1 + x))) ++ [.int .i64 ca, .int .i64 cb, .int .i64 cc, .int .i64 cc, .int .i64 cd, .int .i64 ca] = tr3Cells ((gridT 1 1 bn).take (2 * (y * 1 + (x + 1)))) := by
         obtain ⟨na, nb, nc, nd⟩ := HNA.out
         rw [show 2 * (y * 1 + (x + 1)) = 2 * (y * 1 + x) + 1 + 1 by omega, List.take_add_one, List.take_add_one, HEV'.out, HOD'.out, tr3_app, tr3_app, List.append_assoc]
         simp only [Option.toList_some, tr3Cells, na, nb, nc, nd, List.cons_append, List.nil_append]
        rw [htk, show 2 * (y * 1 + x) + 2 = 2 * (y * 1 + (x + 1)) by omega] at rown
        have FIN := Lib.hid (And.intro rown hbw7)
        clear hpn hb6 hs6 hrow6 hbw6 rown hgrow hkept hbw7 htk
        go_wp2_with (refine wpList_append_row rfl _ _ 78 rfl rfl rfl hrun ?_)
        have hkk := HKK.out
        refine ⟨⟨_, _, _, _, _, _, _, _, _, _, _, _, _, _, _, _, _, _, _, _, _, _, _, _, _, _, _, _, _, _, _, _, _, _, _, _, _, _, _, _, _, _, _, _, _, _, _, _, _, _, _, _, _, _, _, _, _, _, _, _, ?_, rfl⟩, by simp [intOf]; omega⟩
        exact ⟨x + 1, _, by omega, by go_num, congrArg (Value.int .i64) (by omega), rfl, FIN.out.1, FIN.out.2⟩
      ·obtain rfl : x = 1 := by omega
       have FIN := Lib.hid (And.intro hrow hbw)
       clear hrow hbw
       go_wp2
       have hrow := FIN.out.1
       rw [show y * 1 + 1 = (y + 1) * 1 by omega] at hrow
       exact ⟨⟨y + 1, _, by omega, by go_num, congrArg (Value.int .i64) (by omega), rfl, hrow, FIN.out.2⟩, by simp [intOf]; omega⟩
    ·obtain rfl : y = 1 := by omega
     have hgl := HM.out.len
     have htt : (gridT 1 1 bn).take (2 * (1 * 1)) = gridT 1 1 bn := List.take_of_length_le (by rw [hgl]; omega)
     rw [htt] at hrow
     obtain ⟨gt, gtc, hvv⟩ : ∃ g c, vv = .slice (some ⟨g, 0, none⟩) 2 c := by
      rcases hrow.2 with ⟨h1, h2⟩ | ⟨g, cap, cur, h1, h2, h3⟩
      ·omega
      ·exact ⟨g, cap, h1⟩
     subst hvv
     have hgtl := hrow.lt gt rfl
     obtain ⟨w7, hw7⟩ : ∃ w7, w7 = wr := ⟨_, rfl⟩
     rw [← hw7] at hrow hbw hgtl
     rw [← hw7]
     clear hw7
     obtain ⟨fb, hfb⟩ : ∃ fb, w7.heap.size = fb := ⟨_, rfl⟩
     obtain ⟨hmk, hmp⟩ := run_new_map (P := Tryz.prog) w7 137 138
     obtain ⟨w8, hw8⟩ : ∃ w8, w7.alloc (.map #[] 0) = w8 := ⟨_, rfl⟩
     rw [hw8, hfb] at hmk hmp
     have hb8 : Below fb w7 w8 := by rw [← hw8, ← hfb]; exact (Below.refl _ _).alloc (Nat.le_refl _) _
     have htr := hrow.trIn
     have HRWT := Lib.hid hrow; have HBT := Lib.hid hbw; have HTR := Lib.hid htr; have HGTL := Lib.hid hgtl; have HFB := Lib.hid hfb; have HMP := Lib.hid (fault_new hmp); have HB8 := Lib.hid hb8
     clear hrow hbw htr hgtl hfb hmp hb8 hw8
     go_wp2
     clear hmk
     go_loopw [23, 25, 26, 116] (fun nv _ _ iv wr => ∃ j : Nat, j ≤ 2 ∧ iv = .int .i64 (j : Int) ∧ nv = .int .i64 ((3 * j : Nat) : Int) ∧ (∃ F, FaultMap Tryz.prog 138 wr fb F) ∧ Below fb w7 wr) (fun _ _ _ iv _ => 2 - (intOf iv).toNat)
     case atStart => exact ⟨0, Nat.zero_le _, rfl, rfl, ⟨_, HMP.out⟩, HB8.out⟩
     case round =>
      obtain ⟨j, hj, rfl, rfl, ⟨F, hF⟩, hbw⟩ := hrel
      by_cases hlt : j < 2
      ·have hyd : decide ((j : Int) < 2) = true := decide_eq_true (by omega)
       obtain ⟨⟨x, y, z⟩, hv⟩ : ∃ v, (gridT 1 1 bn)[j]? = some v := ⟨_, List.getElem?_eq_getElem (by have := HM.out.len; omega)⟩
       obtain ⟨px, py, pz⟩ := OK.out.pts _ (List.mem_of_getElem? hv)
       have hpl6 := OK.out.many
       simp only [] at px py pz
       have htk := HTR.out j (x : Int) (y : Int) (z : Int) (by rw [List.getElem?_map, hv]; rfl)
       have hfb := HFB.out
       have l1 := World.block_lt_of_cell? w7 _ htk.1
       simp only [] at l1
       have ka := (hbw.cell (p := ⟨gt, j * 3, none⟩) (by show gt < fb; omega)).trans htk.1
       have kb := (hbw.cell (p := ⟨gt, j * 3 + 1, none⟩) (by show gt < fb; omega)).trans htk.2.1
       have kc := (hbw.cell (p := ⟨gt, j * 3 + 2, none⟩) (by show gt < fb; omega)).trans htk.2.2
       obtain ⟨w9, hw9, hpv, hb9, hs9⟩ := new_box wr _ rfl [.int .i64 (x : Int), .int .i64 (y : Int), .int .i64 (z : Int)] 34
       have hF9 := hF.same (hb9.block fb hF.lt)
       have hfl := hF.lt
       have hbw9 : Below fb w7 w9 := hbw.trans (hb9.mono (by omega))
       obtain ⟨tb, htb⟩ : ∃ tb, wr.heap.size = tb := ⟨_, rfl⟩
       have htf : fb < tb := by omega
       rw [htb] at hpv
       have HF9 := Lib.hid hF9; have HBW9 := Lib.hid hbw9; have HPV := Lib.hid hpv
       have hxyz : x < 10 ∧ y < 10 ∧ z < 10 := by
        have : (gridP 1 1).length = 4 := rfl
        omega
       clear hv px py pz htk hfb l1 hb9 hs9 hF9 hbw9 hpv hF hbw hfl hpl6
       go_wp2
       clear ka kb kc hw9 htb
       go_loopw [23, 26, 120] (fun nv _ iv wr => ∃ i : Nat, i ≤ 3 ∧ iv = .int .i64 (i : Int) ∧ nv = .int .i64 ((3 * j + i : Nat) : Int) ∧ (∃ F, FaultMap Tryz.prog 138 wr fb F) ∧ Box wr tb [.int .i64 (x : Int), .int .i64 (y : Int), .int .i64 (z : Int)] ∧ Below fb w7 wr) (fun _ _ iv _ => 3 - (intOf iv).toNat)
       case atStart => exact ⟨0, Nat.zero_le _, rfl, rfl, ⟨_, HF9.out⟩, HPV.out, HBW9.out⟩
       case round =>
        obtain ⟨i, hi, rfl, rfl, ⟨F2, hF2⟩, hbx, hbw⟩ := hrel
        by_cases hli : i < 3
        ·obtain ⟨nn, hnn⟩ : ∃ nn : Nat, 3 * j + i = nn := ⟨_, rfl⟩
         have hnn24 : nn < 24 := by omega
         have HNN := Lib.hid hnn
         rw [hnn]
         clear hnn
         have HF2 := Lib.hid hF2; have HBX2 := Lib.hid hbx; have HBW2 := Lib.hid hbw
         clear hF2 hbx hbw
         obtain ⟨q, hq⟩ : ∃ q : Bool, (bits .and .u32 (f / 2 ^ (nn % 32)) 1 == 1) = q := ⟨_, rfl⟩
         have hfb2 := HF2.out.lt
         have hd3 := (HF2.out.same (w' := wr.drew) rfl)
         have hx3 := HBX2.out.drew
         have hw3 := HBW2.out.drew'
         have HF3 := Lib.hid hd3; have HBX3 := Lib.hid hx3; have HBW3 := Lib.hid hw3
         clear hd3 hx3 hw3
         cases q
         ·go_wp2
          have hnn := HNN.out
          exact ⟨⟨i + 1, by omega, by go_num, congrArg (Value.int .i64) (by omega), ⟨_, HF2.out⟩, HBX2.out, HBW2.out⟩, by simp [intOf]; omega⟩
         ·obtain rfl | rfl | rfl : i = 0 ∨ i = 1 ∨ i = 2 := by omega
          ·obtain ⟨mn, hmn⟩ : ∃ mn : Int, (if (y : Int) < (x : Int) then (y : Int) else (x : Int)) = mn := ⟨_, rfl⟩
           obtain ⟨mx, hmx⟩ : ∃ mx : Int, (if (y : Int) > (x : Int) then (y : Int) else (x : Int)) = mx := ⟨_, rfl⟩
           have bmn : -1000000 ≤ mn ∧ mn ≤ 1000000 := by rw [← hmn]; split <;> omega
           have bmx : -1000000 ≤ mx ∧ mx ≤ 1000000 := by rw [← hmx]; split <;> omega
           have hmin : ∀ w : World, Sem.run Tryz.prog (Builtin.min_ #[3, 3] 3 #[.int .i64 (x : Int), .int .i64 (y : Int)]) w = Result.ok (Value.int .i64 mn) w := fun w => by rw [run_min_int2, hmn]
           have hmax : ∀ w : World, Sem.run Tryz.prog (Builtin.max_ #[3, 3] 3 #[.int .i64 (x : Int), .int .i64 (y : Int)]) w = Result.ok (Value.int .i64 mx) w := fun w => by rw [run_max_int2, hmx]
           have hwk : (IntKind.i64.wrap 1).tmod 3 = 1 := by decide
           obtain ⟨wm, F4, hup, hT4, hF4⟩ := fault_store HF3.out bmn bmx
           have hx0 := HBX3.out.c 0 _ rfl; have hx1 := HBX3.out.c 1 _ rfl
           have hbx4 := HBX3.out.turned hT4 (by omega)
           have hbw4 : Below fb w7 wm := Below.turned HBW3.out hT4 (Nat.le_refl _)
           have hy0 := hbx4.c 0 _ rfl; have hy1 := hbx4.c 1 _ rfl
           have FIN := Lib.hid (And.intro hF4 (And.intro hbx4 hbw4))
           clear hmn hmx bmn bmx hT4 hF4 hbx4 hbw4
           go_wp2_with fail
           obtain ⟨SSs, hSSs⟩ : ∃ S : Array Bool → World → Prop, ∀ l w', S l w' ↔ ((w'.cell? ⟨tb, 0, none⟩ = some (.int .i64 (x : Int))) ∧ (w'.cell? ⟨tb, 1, none⟩ = some (.int .i64 (y : Int)))) := ⟨_, fun _ _ => Iff.rfl⟩
           refine wp_region_noPanic ?_
           refine wp_region_G SSs 21 #[false, false, false, false, false, false, false, false, false, false, false, false, false, false, false, false, false, false, false, false, false] (by kernel_rfl) (by kernel_rfl) (by kernel_rfl) ((hSSs _ _).2 ⟨hx0, hx1⟩) (fun hCl hHeld => ?_)
           generalize wr.drew = wd at *
           refine rG 0 ?_ ?_ ?_ ?_ ?_ ?_ hCl hHeld ?_;rotate_left 2
           ·simp only [gA,gZ]; exact rfl
           ·intro l w'; rw [hSSs, hSSs]
           ·rfl
           ·intro w' hA;clear hA;go_simp;try with_reducible rfl
           clear hCl hHeld
           intro hCl hHeld
           simp only [List.setIfInBounds_toArray, List.set_cons_zero] at hCl hHeld
           (try simp only [Act.put]);try simp only [sA,sZ,sS]
           refine rG 1 ?_ ?_ ?_ ?_ ?_ ?_ hCl hHeld ?_;rotate_left 2
           ·simp only [gA,gS,gZ]; exact rfl
           ·intro l w'; rw [hSSs, hSSs]
           ·rfl
           ·intro w' hA;clear hA;go_simp;try with_reducible rfl
           clear hCl hHeld
           intro hCl hHeld
           simp only [sA,sZ,sS] at hCl hHeld
           (try simp only [Act.put]);try simp only [sA,sZ,sS]
           refine rG 2 ?_ ?_ ?_ ?_ ?_ ?_ hCl hHeld ?_;rotate_left 2
           ·simp only [gA,gS,gZ]; exact rfl
           ·intro l w'; rw [hSSs, hSSs]
           ·rfl
           ·intro w' hA;clear hA;go_simp;try with_reducible rfl
           clear hCl hHeld
           intro hCl hHeld
           simp only [sA,sZ,sS] at hCl hHeld
           (try simp only [Act.put]);try simp only [sA,sZ,sS]
           refine rG 3 ?_ ?_ ?_ ?_ ?_ ?_ hCl hHeld ?_;rotate_left 2
           ·simp only [gA,gS,gZ]; exact rfl
           ·intro l w'; rw [hSSs, hSSs]
           ·rfl
           ·intro w' hA; obtain ⟨l, hl, hi, hSl⟩ := hA; have hSl := (hSSs _ _).1 hSl; obtain ⟨hz0, hz1⟩ := hSl; go_simp; try with_reducible rfl
           clear hCl hHeld
           intro hCl hHeld
           simp only [sA,sZ,sS] at hCl hHeld
           (try simp only [Act.put]);try simp only [sA,sZ,sS]
           refine rG 4 ?_ ?_ ?_ ?_ ?_ ?_ hCl hHeld ?_;rotate_left 2
           ·simp only [gA,gS,gZ]; exact rfl
           ·intro l w'; rw [hSSs, hSSs]
           ·rfl
           ·intro w' hA;clear hA;go_simp;try with_reducible rfl
           clear hCl hHeld
           intro hCl hHeld
           simp only [sA,sZ,sS] at hCl hHeld
           (try simp only [Act.put]);try simp only [sA,sZ,sS]
           refine rG 5 ?_ ?_ ?_ ?_ ?_ ?_ hCl hHeld ?_;rotate_left 2
           ·simp only [gA,gS,gZ]; exact rfl
           ·intro l w'; rw [hSSs, hSSs]
           ·rfl
           ·intro w' hA;clear hA;go_simp;try with_reducible rfl
           clear hCl hHeld
           intro hCl hHeld
           simp only [sA,sZ,sS] at hCl hHeld
           (try simp only [Act.put]);try simp only [sA,sZ,sS]
           refine rG 6 ?_ ?_ ?_ ?_ ?_ ?_ hCl hHeld ?_;rotate_left 2
           ·simp only [gA,gS,gZ]; exact rfl
           ·intro l w'; rw [hSSs, hSSs]
           ·rfl
           ·intro w' hA;clear hA;go_simp;try with_reducible rfl
           clear hCl hHeld
           intro hCl hHeld
           simp only [sA,sZ,sS] at hCl hHeld
           (try simp only [Act.put]);try simp only [sA,sZ,sS]
           refine rG 7 ?_ ?_ ?_ ?_ ?_ ?_ hCl hHeld ?_;rotate_left 2
           ·simp only [gA,gS,gZ]; exact rfl
           ·intro l w'; rw [hSSs, hSSs]
           ·rfl
           ·intro w' hA;clear hA;go_simp;try with_reducible rfl
           clear hCl hHeld
           intro hCl hHeld
           simp only [sA,sZ,sS] at hCl hHeld
           (try simp only [Act.put]);try simp only [sA,sZ,sS]
           refine rG 8 ?_ ?_ ?_ ?_ ?_ ?_ hCl hHeld ?_;rotate_left 2
           ·simp only [gA,gS,gZ]; exact rfl
           ·intro l w'; rw [hSSs, hSSs]
           ·rfl
           ·intro w' hA; obtain ⟨l, hl, hi, hSl⟩ := hA; have hSl := (hSSs _ _).1 hSl; obtain ⟨hz0, hz1⟩ := hSl; go_simp; try with_reducible rfl
           clear hCl hHeld
           intro hCl hHeld
           simp only [sA,sZ,sS] at hCl hHeld
           (try simp only [Act.put]);try simp only [sA,sZ,sS]
           refine rG 9 ?_ ?_ ?_ ?_ ?_ ?_ hCl hHeld ?_;rotate_left 2
           ·simp only [gA,gS,gZ]; exact rfl
           ·intro l w'; rw [hSSs, hSSs]
           ·rfl
           ·intro w' hA;clear hA;go_simp;try with_reducible rfl
           clear hCl hHeld
           intro hCl hHeld
           simp only [sA,sZ,sS] at hCl hHeld
           (try simp only [Act.put]);try simp only [sA,sZ,sS]
           refine rG 10 ?_ ?_ ?_ ?_ ?_ ?_ hCl hHeld ?_;rotate_left 2
           ·simp only [gA,gS,gZ]; exact rfl
           ·intro l w'; rw [hSSs, hSSs]
           ·rfl
           ·intro w' hA;clear hA;go_simp;try with_reducible rfl
           clear hCl hHeld
           intro hCl hHeld
           simp only [sA,sZ,sS] at hCl hHeld
           (try simp only [Act.put]);try simp only [sA,sZ,sS]
           refine rG 11 ?_ ?_ ?_ ?_ ?_ ?_ hCl hHeld ?_;rotate_left 2
           ·simp only [gA,gS,gZ]; exact rfl
           ·intro l w'; rw [hSSs, hSSs]
           ·rfl
           ·intro w' hA;clear hA;go_simp;try with_reducible rfl
           clear hCl hHeld
           intro hCl hHeld
           simp only [sA,sZ,sS] at hCl hHeld
           (try simp only [Act.put]);try simp only [sA,sZ,sS]
           refine rG 12 ?_ ?_ ?_ ?_ ?_ ?_ hCl hHeld ?_;rotate_left 2
           ·simp only [gA,gS,gZ]; exact rfl
           ·intro l w'; rw [hSSs, hSSs]
           ·rfl
           ·intro w' hA; obtain ⟨l, hl, hi, hSl⟩ := hA; have hSl := (hSSs _ _).1 hSl; obtain ⟨hz0, hz1⟩ := hSl; go_simp; try with_reducible rfl
           clear hCl hHeld
           intro hCl hHeld
           simp only [sA,sZ,sS] at hCl hHeld
           (try simp only [Act.put]);try simp only [sA,sZ,sS]
           refine rG 13 ?_ ?_ ?_ ?_ ?_ ?_ hCl hHeld ?_;rotate_left 2
           ·simp only [gA,gS,gZ]; exact rfl
           ·intro l w'; rw [hSSs, hSSs]
           ·rfl
           ·intro w' hA;clear hA;go_simp;try with_reducible rfl
           clear hCl hHeld
           intro hCl hHeld
           simp only [sA,sZ,sS] at hCl hHeld
           (try simp only [Act.put]);try simp only [sA,sZ,sS]
           refine rG 14 ?_ ?_ ?_ ?_ ?_ ?_ hCl hHeld ?_;rotate_left 2
           ·simp only [gA,gS,gZ]; exact rfl
           ·intro l w'; rw [hSSs, hSSs]
           ·rfl
           ·intro w' hA;clear hA;go_simp;try with_reducible rfl
           clear hCl hHeld
           intro hCl hHeld
           simp only [sA,sZ,sS] at hCl hHeld
           (try simp only [Act.put]);try simp only [sA,sZ,sS]
           refine rG 15 ?_ ?_ ?_ ?_ ?_ ?_ hCl hHeld ?_;rotate_left 2
           ·simp only [gA,gS,gZ]; exact rfl
           ·intro l w'; rw [hSSs, hSSs]
           ·rfl
           ·intro w' hA;clear hA;go_simp;try with_reducible rfl
           clear hCl hHeld
           intro hCl hHeld
           simp only [sA,sZ,sS] at hCl hHeld
           (try simp only [Act.put]);try simp only [sA,sZ,sS]
           refine rG 16 ?_ ?_ ?_ ?_ ?_ ?_ hCl hHeld ?_;rotate_left 2
           ·simp only [gA,gS,gZ]; exact rfl
           ·intro l w'; rw [hSSs, hSSs]
           ·rfl
           ·intro w' hA;clear hA;go_simp;try with_reducible rfl
           clear hCl hHeld
           intro hCl hHeld
           simp only [sA,sZ,sS] at hCl hHeld
           (try simp only [Act.put]);try simp only [sA,sZ,sS]
           refine rG 17 ?_ ?_ ?_ ?_ ?_ ?_ hCl hHeld ?_;rotate_left 2
           ·simp only [gA,gS,gZ]; exact rfl
           ·intro l w'; rw [hSSs, hSSs]
           ·rfl
           ·intro w' hA; obtain ⟨l, hl, hi, hSl⟩ := hA; have hSl := (hSSs _ _).1 hSl; obtain ⟨hz0, hz1⟩ := hSl; go_simp; try with_reducible rfl
           clear hCl hHeld
           intro hCl hHeld
           simp only [sA,sZ,sS] at hCl hHeld
           (try simp only [Act.put]);try simp only [sA,sZ,sS]
           refine rG 18 ?_ ?_ ?_ ?_ ?_ ?_ hCl hHeld ?_;rotate_left 2
           ·simp only [gA,gS,gZ]; exact rfl
           ·intro l w'; rw [hSSs, hSSs]
           ·rfl
           ·intro w' hA;clear hA;go_simp;try with_reducible rfl
           clear hCl hHeld
           intro hCl hHeld
           simp only [sA,sZ,sS] at hCl hHeld
           (try simp only [Act.put]);try simp only [sA,sZ,sS]
           refine rG 19 ?_ ?_ ?_ ?_ ?_ ?_ hCl hHeld ?_;rotate_left 2
           ·simp only [gA,gS,gZ]; exact rfl
           ·intro l w'; rw [hSSs, hSSs]
           ·rfl
           ·intro w' hA;clear hA;go_simp;try with_reducible rfl
           clear hCl hHeld
           intro hCl hHeld
           simp only [sA,sZ,sS] at hCl hHeld
           (try simp only [Act.put]);try simp only [sA,sZ,sS]
           clear hCl hHeld
           refine reg_callG 20 ?_ (by kernel_rfl) ?_ (fun K hK => ?_);rotate_left 1
           ·simp only [gA,gS,gZ]; exact rfl
           go_simp
           clear hx0 hx1 hup
           refine hK.out _ _ ((hSSs _ _).2 ⟨hy0, hy1⟩) ?_
           clear hK K
           (try simp only [Act.put]);try simp only [sA,sZ,sS]
           refine wpAnyG_done (by kernel_rfl) ?_ _
           refine NoPanic.normal ?_
           clear hSSs SSs
           go_wp2
           have hnn := HNN.out
           refine ⟨⟨_, _, _, _, _, _, _, _, _, _, _, _, _, _, _, _, _, _, _, _, _, _, _, _, _, _, _, _, _, _, _, _, _, _, ?_, rfl⟩, by simp [intOf]⟩
           exact ⟨0 + 1, by omega, by go_num, congrArg (Value.int .i64) (by omega), ⟨_, FIN.out.1⟩, FIN.out.2.1, FIN.out.2.2⟩
          ·obtain ⟨mn, hmn⟩ : ∃ mn : Int, (if (z : Int) < (y : Int) then (z : Int) else (y : Int)) = mn := ⟨_, rfl⟩
           obtain ⟨mx, hmx⟩ : ∃ mx : Int, (if (z : Int) > (y : Int) then (z : Int) else (y : Int)) = mx := ⟨_, rfl⟩
           have bmn : -1000000 ≤ mn ∧ mn ≤ 1000000 := by rw [← hmn]; split <;> omega
           have bmx : -1000000 ≤ mx ∧ mx ≤ 1000000 := by rw [← hmx]; split <;> omega
           have hmin : ∀ w : World, Sem.run Tryz.prog (Builtin.min_ #[3, 3] 3 #[.int .i64 (y : Int), .int .i64 (z : Int)]) w = Result.ok (Value.int .i64 mn) w := fun w => by rw [run_min_int2, hmn]
           have hmax : ∀ w : World, Sem.run Tryz.prog (Builtin.max_ #[3, 3] 3 #[.int .i64 (y : Int), .int .i64 (z : Int)]) w = Result.ok (Value.int .i64 mx) w := fun w => by rw [run_max_int2, hmx]
           have hwk : (IntKind.i64.wrap 2).tmod 3 = 2 := by decide
           obtain ⟨wm, F4, hup, hT4, hF4⟩ := fault_store HF3.out bmn bmx
           have hx0 := HBX3.out.c 1 _ rfl; have hx1 := HBX3.out.c 2 _ rfl
           have hbx4 := HBX3.out.turned hT4 (by omega)
           have hbw4 : Below fb w7 wm := Below.turned HBW3.out hT4 (Nat.le_refl _)
           have hy0 := hbx4.c 1 _ rfl; have hy1 := hbx4.c 2 _ rfl
           have FIN := Lib.hid (And.intro hF4 (And.intro hbx4 hbw4))
           clear hmn hmx bmn bmx hT4 hF4 hbx4 hbw4
           go_wp2_with fail
           obtain ⟨SSs, hSSs⟩ : ∃ S : Array Bool → World → Prop, ∀ l w', S l w' ↔ ((w'.cell? ⟨tb, 1, none⟩ = some (.int .i64 (y : Int))) ∧ (w'.cell? ⟨tb, 2, none⟩ = some (.int .i64 (z : Int)))) := ⟨_, fun _ _ => Iff.rfl⟩
           refine wp_region_noPanic ?_
           refine wp_region_G SSs 21 #[false, false, false, false, false, false, false, false, false, false, false, false, false, false, false, false, false, false, false, false, false] (by kernel_rfl) (by kernel_rfl) (by kernel_rfl) ((hSSs _ _).2 ⟨hx0, hx1⟩) (fun hCl hHeld => ?_)
           generalize wr.drew = wd at *
           refine rG 0 ?_ ?_ ?_ ?_ ?_ ?_ hCl hHeld ?_;rotate_left 2
           ·simp only [gA,gZ]; exact rfl
           ·intro l w'; rw [hSSs, hSSs]
           ·rfl
           ·intro w' hA;clear hA;go_simp;try with_reducible rfl
           clear hCl hHeld
           intro hCl hHeld
           simp only [List.setIfInBounds_toArray, List.set_cons_zero] at hCl hHeld
           (try simp only [Act.put]);try simp only [sA,sZ,sS]
           refine rG 1 ?_ ?_ ?_ ?_ ?_ ?_ hCl hHeld ?_;rotate_left 2
           ·simp only [gA,gS,gZ]; exact rfl
           ·intro l w'; rw [hSSs, hSSs]
           ·rfl
           ·intro w' hA;clear hA;go_simp;try with_reducible rfl
           clear hCl hHeld
           intro hCl hHeld
           simp only [sA,sZ,sS] at hCl hHeld
           (try simp only [Act.put]);try simp only [sA,sZ,sS]
           refine rG 2 ?_ ?_ ?_ ?_ ?_ ?_ hCl hHeld ?_;rotate_left 2
           ·simp only [gA,gS,gZ]; exact rfl
           ·intro l w'; rw [hSSs, hSSs]
           ·rfl
           ·intro w' hA;clear hA;go_simp;try with_reducible rfl
           clear hCl hHeld
           intro hCl hHeld
           simp only [sA,sZ,sS] at hCl hHeld
           (try simp only [Act.put]);try simp only [sA,sZ,sS]
           refine rG 3 ?_ ?_ ?_ ?_ ?_ ?_ hCl hHeld ?_;rotate_left 2
           ·simp only [gA,gS,gZ]; exact rfl
           ·intro l w'; rw [hSSs, hSSs]
           ·rfl
           ·intro w' hA; obtain ⟨l, hl, hi, hSl⟩ := hA; have hSl := (hSSs _ _).1 hSl; obtain ⟨hz0, hz1⟩ := hSl; go_simp; try with_reducible rfl
           clear hCl hHeld
           intro hCl hHeld
           simp only [sA,sZ,sS] at hCl hHeld
           (try simp only [Act.put]);try simp only [sA,sZ,sS]
           refine rG 4 ?_ ?_ ?_ ?_ ?_ ?_ hCl hHeld ?_;rotate_left 2
           ·simp only [gA,gS,gZ]; exact rfl
           ·intro l w'; rw [hSSs, hSSs]
           ·rfl
           ·intro w' hA;clear hA;go_simp;try with_reducible rfl
           clear hCl hHeld
           intro hCl hHeld
           simp only [sA,sZ,sS] at hCl hHeld
           (try simp only [Act.put]);try simp only [sA,sZ,sS]
           refine rG 5 ?_ ?_ ?_ ?_ ?_ ?_ hCl hHeld ?_;rotate_left 2
           ·simp only [gA,gS,gZ]; exact rfl
           ·intro l w'; rw [hSSs, hSSs]
           ·rfl
           ·intro w' hA;clear hA;go_simp;try with_reducible rfl
           clear hCl hHeld
           intro hCl hHeld
           simp only [sA,sZ,sS] at hCl hHeld
           (try simp only [Act.put]);try simp only [sA,sZ,sS]
           refine rG 6 ?_ ?_ ?_ ?_ ?_ ?_ hCl hHeld ?_;rotate_left 2
           ·simp only [gA,gS,gZ]; exact rfl
           ·intro l w'; rw [hSSs, hSSs]
           ·rfl
           ·intro w' hA;clear hA;go_simp;try with_reducible rfl
           clear hCl hHeld
           intro hCl hHeld
           simp only [sA,sZ,sS] at hCl hHeld
           (try simp only [Act.put]);try simp only [sA,sZ,sS]
           refine rG 7 ?_ ?_ ?_ ?_ ?_ ?_ hCl hHeld ?_;rotate_left 2
           ·simp only [gA,gS,gZ]; exact rfl
           ·intro l w'; rw [hSSs, hSSs]
           ·rfl
           ·intro w' hA;clear hA;go_simp;try with_reducible rfl
           clear hCl hHeld
           intro hCl hHeld
           simp only [sA,sZ,sS] at hCl hHeld
           (try simp only [Act.put]);try simp only [sA,sZ,sS]
           refine rG 8 ?_ ?_ ?_ ?_ ?_ ?_ hCl hHeld ?_;rotate_left 2
           ·simp only [gA,gS,gZ]; exact rfl
           ·intro l w'; rw [hSSs, hSSs]
           ·rfl
           ·intro w' hA; obtain ⟨l, hl, hi, hSl⟩ := hA; have hSl := (hSSs _ _).1 hSl; obtain ⟨hz0, hz1⟩ := hSl; go_simp; try with_reducible rfl
           clear hCl hHeld
           intro hCl hHeld
           simp only [sA,sZ,sS] at hCl hHeld
           (try simp only [Act.put]);try simp only [sA,sZ,sS]
           refine rG 9 ?_ ?_ ?_ ?_ ?_ ?_ hCl hHeld ?_;rotate_left 2
           ·simp only [gA,gS,gZ]; exact rfl
           ·intro l w'; rw [hSSs, hSSs]
           ·rfl
           ·intro w' hA;clear hA;go_simp;try with_reducible rfl
           clear hCl hHeld
           intro hCl hHeld
           simp only [sA,sZ,sS] at hCl hHeld
           (try simp only [Act.put]);try simp only [sA,sZ,sS]
           refine rG 10 ?_ ?_ ?_ ?_ ?_ ?_ hCl hHeld ?_;rotate_left 2
           ·simp only [gA,gS,gZ]; exact rfl
           ·intro l w'; rw [hSSs, hSSs]
           ·rfl
           ·intro w' hA;clear hA;go_simp;try with_reducible rfl
           clear hCl hHeld
           intro hCl hHeld
           simp only [sA,sZ,sS] at hCl hHeld
           (try simp only [Act.put]);try simp only [sA,sZ,sS]
           refine rG 11 ?_ ?_ ?_ ?_ ?_ ?_ hCl hHeld ?_;rotate_left 2
           ·simp only [gA,gS,gZ]; exact rfl
           ·intro l w'; rw [hSSs, hSSs]
           ·rfl
           ·intro w' hA;clear hA;go_simp;try with_reducible rfl
           clear hCl hHeld
           intro hCl hHeld
           simp only [sA,sZ,sS] at hCl hHeld
           (try simp only [Act.put]);try simp only [sA,sZ,sS]
           refine rG 12 ?_ ?_ ?_ ?_ ?_ ?_ hCl hHeld ?_;rotate_left 2
           ·simp only [gA,gS,gZ]; exact rfl
           ·intro l w'; rw [hSSs, hSSs]
           ·rfl
           ·intro w' hA; obtain ⟨l, hl, hi, hSl⟩ := hA; have hSl := (hSSs _ _).1 hSl; obtain ⟨hz0, hz1⟩ := hSl; go_simp; try with_reducible rfl
           clear hCl hHeld
           intro hCl hHeld
           simp only [sA,sZ,sS] at hCl hHeld
           (try simp only [Act.put]);try simp only [sA,sZ,sS]
           refine rG 13 ?_ ?_ ?_ ?_ ?_ ?_ hCl hHeld ?_;rotate_left 2
           ·simp only [gA,gS,gZ]; exact rfl
           ·intro l w'; rw [hSSs, hSSs]
           ·rfl
           ·intro w' hA;clear hA;go_simp;try with_reducible rfl
           clear hCl hHeld
           intro hCl hHeld
           simp only [sA,sZ,sS] at hCl hHeld
           (try simp only [Act.put]);try simp only [sA,sZ,sS]
           refine rG 14 ?_ ?_ ?_ ?_ ?_ ?_ hCl hHeld ?_;rotate_left 2
           ·simp only [gA,gS,gZ]; exact rfl
           ·intro l w'; rw [hSSs, hSSs]
           ·rfl
           ·intro w' hA;clear hA;go_simp;try with_reducible rfl
           clear hCl hHeld
           intro hCl hHeld
           simp only [sA,sZ,sS] at hCl hHeld
           (try simp only [Act.put]);try simp only [sA,sZ,sS]
           refine rG 15 ?_ ?_ ?_ ?_ ?_ ?_ hCl hHeld ?_;rotate_left 2
           ·simp only [gA,gS,gZ]; exact rfl
           ·intro l w'; rw [hSSs, hSSs]
           ·rfl
           ·intro w' hA;clear hA;go_simp;try with_reducible rfl
           clear hCl hHeld
           intro hCl hHeld
           simp only [sA,sZ,sS] at hCl hHeld
           (try simp only [Act.put]);try simp only [sA,sZ,sS]
           refine rG 16 ?_ ?_ ?_ ?_ ?_ ?_ hCl hHeld ?_;rotate_left 2
           ·simp only [gA,gS,gZ]; exact rfl
           ·intro l w'; rw [hSSs, hSSs]
           ·rfl
           ·intro w' hA;clear hA;go_simp;try with_reducible rfl
           clear hCl hHeld
           intro hCl hHeld
           simp only [sA,sZ,sS] at hCl hHeld
           (try simp only [Act.put]);try simp only [sA,sZ,sS]
           refine rG 17 ?_ ?_ ?_ ?_ ?_ ?_ hCl hHeld ?_;rotate_left 2
           ·simp only [gA,gS,gZ]; exact rfl
           ·intro l w'; rw [hSSs, hSSs]
           ·rfl
           ·intro w' hA; obtain ⟨l, hl, hi, hSl⟩ := hA; have hSl := (hSSs _ _).1 hSl; obtain ⟨hz0, hz1⟩ := hSl; go_simp; try with_reducible rfl
           clear hCl hHeld
           intro hCl hHeld
           simp only [sA,sZ,sS] at hCl hHeld
           (try simp only [Act.put]);try simp only [sA,sZ,sS]
           refine rG 18 ?_ ?_ ?_ ?_ ?_ ?_ hCl hHeld ?_;rotate_left 2
           ·simp only [gA,gS,gZ]; exact rfl
           ·intro l w'; rw [hSSs, hSSs]
           ·rfl
           ·intro w' hA;clear hA;go_simp;try with_reducible rfl
           clear hCl hHeld
           intro hCl hHeld
           simp only [sA,sZ,sS] at hCl hHeld
           (try simp only [Act.put]);try simp only [sA,sZ,sS]
           refine rG 19 ?_ ?_ ?_ ?_ ?_ ?_ hCl hHeld ?_;rotate_left 2
           ·simp only [gA,gS,gZ]; exact rfl
           ·intro l w'; rw [hSSs, hSSs]
           ·rfl
           ·intro w' hA;clear hA;go_simp;try with_reducible rfl
           clear hCl hHeld
           intro hCl hHeld
           simp only [sA,sZ,sS] at hCl hHeld
           (try simp only [Act.put]);try simp only [sA,sZ,sS]
           clear hCl hHeld
           refine reg_callG 20 ?_ (by kernel_rfl) ?_ (fun K hK => ?_);rotate_left 1
           ·simp only [gA,gS,gZ]; exact rfl
           go_simp
           clear hx0 hx1 hup
           refine hK.out _ _ ((hSSs _ _).2 ⟨hy0, hy1⟩) ?_
           clear hK K
           (try simp only [Act.put]);try simp only [sA,sZ,sS]
           refine wpAnyG_done (by kernel_rfl) ?_ _
           refine NoPanic.normal ?_
           clear hSSs SSs
           go_wp2
           have hnn := HNN.out
           refine ⟨⟨_, _, _, _, _, _, _, _, _, _, _, _, _, _, _, _, _, _, _, _, _, _, _, _, _, _, _, _, _, _, _, _, _, _, ?_, rfl⟩, by simp [intOf]⟩
           exact ⟨1 + 1, by omega, by go_num, congrArg (Value.int .i64) (by omega), ⟨_, FIN.out.1⟩, FIN.out.2.1, FIN.out.2.2⟩
          ·obtain ⟨mn, hmn⟩ : ∃ mn : Int, (if (x : Int) < (z : Int) then (x : Int) else (z : Int)) = mn := ⟨_, rfl⟩
           obtain ⟨mx, hmx⟩ : ∃ mx : Int, (if (x : Int) > (z : Int) then (x : Int) else (z : Int)) = mx := ⟨_, rfl⟩
           have bmn : -1000000 ≤ mn ∧ mn ≤ 1000000 := by rw [← hmn]; split <;> omega
           have bmx : -1000000 ≤ mx ∧ mx ≤ 1000000 := by rw [← hmx]; split <;> omega
           have hmin : ∀ w : World, Sem.run Tryz.prog (Builtin.min_ #[3, 3] 3 #[.int .i64 (z : Int), .int .i64 (x : Int)]) w = Result.ok (Value.int .i64 mn) w := fun w => by rw [run_min_int2, hmn]
           have hmax : ∀ w : World, Sem.run Tryz.prog (Builtin.max_ #[3, 3] 3 #[.int .i64 (z : Int), .int .i64 (x : Int)]) w = Result.ok (Value.int .i64 mx) w := fun w => by rw [run_max_int2, hmx]
           have hwk : (IntKind.i64.wrap 3).tmod 3 = 0 := by decide
           obtain ⟨wm, F4, hup, hT4, hF4⟩ := fault_store HF3.out bmn bmx
           have hx0 := HBX3.out.c 2 _ rfl; have hx1 := HBX3.out.c 0 _ rfl
           have hbx4 := HBX3.out.turned hT4 (by omega)
           have hbw4 : Below fb w7 wm := Below.turned HBW3.out hT4 (Nat.le_refl _)
           have hy0 := hbx4.c 2 _ rfl; have hy1 := hbx4.c 0 _ rfl
           have FIN := Lib.hid (And.intro hF4 (And.intro hbx4 hbw4))
           clear hmn hmx bmn bmx hT4 hF4 hbx4 hbw4
           go_wp2_with fail
           obtain ⟨SSs, hSSs⟩ : ∃ S : Array Bool → World → Prop, ∀ l w', S l w' ↔ ((w'.cell? ⟨tb, 2, none⟩ = some (.int .i64 (z : Int))) ∧ (w'.cell? ⟨tb, 0, none⟩ = some (.int .i64 (x : Int)))) := ⟨_, fun _ _ => Iff.rfl⟩
           refine wp_region_noPanic ?_
           refine wp_region_G SSs 21 #[false, false, false, false, false, false, false, false, false, false, false, false, false, false, false, false, false, false, false, false, false] (by kernel_rfl) (by kernel_rfl) (by kernel_rfl) ((hSSs _ _).2 ⟨hx0, hx1⟩) (fun hCl hHeld => ?_)
           generalize wr.drew = wd at *
           refine rG 0 ?_ ?_ ?_ ?_ ?_ ?_ hCl hHeld ?_;rotate_left 2
           ·simp only [gA,gZ]; exact rfl
           ·intro l w'; rw [hSSs, hSSs]
           ·rfl
           ·intro w' hA;clear hA;go_simp;try with_reducible rfl
           clear hCl hHeld
           intro hCl hHeld
           simp only [List.setIfInBounds_toArray, List.set_cons_zero] at hCl hHeld
           (try simp only [Act.put]);try simp only [sA,sZ,sS]
           refine rG 1 ?_ ?_ ?_ ?_ ?_ ?_ hCl hHeld ?_;rotate_left 2
           ·simp only [gA,gS,gZ]; exact rfl
           ·intro l w'; rw [hSSs, hSSs]
           ·rfl
           ·intro w' hA;clear hA;go_simp;try with_reducible rfl
           clear hCl hHeld
           intro hCl hHeld
           simp only [sA,sZ,sS] at hCl hHeld
           (try simp only [Act.put]);try simp only [sA,sZ,sS]
           refine rG 2 ?_ ?_ ?_ ?_ ?_ ?_ hCl hHeld ?_;rotate_left 2
           ·simp only [gA,gS,gZ]; exact rfl
           ·intro l w'; rw [hSSs, hSSs]
           ·rfl
           ·intro w' hA;clear hA;go_simp;try with_reducible rfl
           clear hCl hHeld
           intro hCl hHeld
           simp only [sA,sZ,sS] at hCl hHeld
           (try simp only [Act.put]);try simp only [sA,sZ,sS]
           refine rG 3 ?_ ?_ ?_ ?_ ?_ ?_ hCl hHeld ?_;rotate_left 2
           ·simp only [gA,gS,gZ]; exact rfl
           ·intro l w'; rw [hSSs, hSSs]
           ·rfl
           ·intro w' hA; obtain ⟨l, hl, hi, hSl⟩ := hA; have hSl := (hSSs _ _).1 hSl; obtain ⟨hz0, hz1⟩ := hSl; go_simp; try with_reducible rfl
           clear hCl hHeld
           intro hCl hHeld
           simp only [sA,sZ,sS] at hCl hHeld
           (try simp only [Act.put]);try simp only [sA,sZ,sS]
           refine rG 4 ?_ ?_ ?_ ?_ ?_ ?_ hCl hHeld ?_;rotate_left 2
           ·simp only [gA,gS,gZ]; exact rfl
           ·intro l w'; rw [hSSs, hSSs]
           ·rfl
           ·intro w' hA;clear hA;go_simp;try with_reducible rfl
           clear hCl hHeld
           intro hCl hHeld
           simp only [sA,sZ,sS] at hCl hHeld
           (try simp only [Act.put]);try simp only [sA,sZ,sS]
           refine rG 5 ?_ ?_ ?_ ?_ ?_ ?_ hCl hHeld ?_;rotate_left 2
           ·simp only [gA,gS,gZ]; exact rfl
           ·intro l w'; rw [hSSs, hSSs]
           ·rfl
           ·intro w' hA;clear hA;go_simp;try with_reducible rfl
           clear hCl hHeld
           intro hCl hHeld
           simp only [sA,sZ,sS] at hCl hHeld
           (try simp only [Act.put]);try simp only [sA,sZ,sS]
           refine rG 6 ?_ ?_ ?_ ?_ ?_ ?_ hCl hHeld ?_;rotate_left 2
           ·simp only [gA,gS,gZ]; exact rfl
           ·intro l w'; rw [hSSs, hSSs]
           ·rfl
           ·intro w' hA;clear hA;go_simp;try with_reducible rfl
           clear hCl hHeld
           intro hCl hHeld
           simp only [sA,sZ,sS] at hCl hHeld
           (try simp only [Act.put]);try simp only [sA,sZ,sS]
           refine rG 7 ?_ ?_ ?_ ?_ ?_ ?_ hCl hHeld ?_;rotate_left 2
           ·simp only [gA,gS,gZ]; exact rfl
           ·intro l w'; rw [hSSs, hSSs]
           ·rfl
           ·intro w' hA;clear hA;go_simp;try with_reducible rfl
           clear hCl hHeld
           intro hCl hHeld
           simp only [sA,sZ,sS] at hCl hHeld
           (try simp only [Act.put]);try simp only [sA,sZ,sS]
           refine rG 8 ?_ ?_ ?_ ?_ ?_ ?_ hCl hHeld ?_;rotate_left 2
           ·simp only [gA,gS,gZ]; exact rfl
           ·intro l w'; rw [hSSs, hSSs]
           ·rfl
           ·intro w' hA; obtain ⟨l, hl, hi, hSl⟩ := hA; have hSl := (hSSs _ _).1 hSl; obtain ⟨hz0, hz1⟩ := hSl; go_simp; try with_reducible rfl
           clear hCl hHeld
           intro hCl hHeld
           simp only [sA,sZ,sS] at hCl hHeld
           (try simp only [Act.put]);try simp only [sA,sZ,sS]
           refine rG 9 ?_ ?_ ?_ ?_ ?_ ?_ hCl hHeld ?_;rotate_left 2
           ·simp only [gA,gS,gZ]; exact rfl
           ·intro l w'; rw [hSSs, hSSs]
           ·rfl
           ·intro w' hA;clear hA;go_simp;try with_reducible rfl
           clear hCl hHeld
           intro hCl hHeld
           simp only [sA,sZ,sS] at hCl hHeld
           (try simp only [Act.put]);try simp only [sA,sZ,sS]
           refine rG 10 ?_ ?_ ?_ ?_ ?_ ?_ hCl hHeld ?_;rotate_left 2
           ·simp only [gA,gS,gZ]; exact rfl
           ·intro l w'; rw [hSSs, hSSs]
           ·rfl
           ·intro w' hA;clear hA;go_simp;try with_reducible rfl
           clear hCl hHeld
           intro hCl hHeld
           simp only [sA,sZ,sS] at hCl hHeld
           (try simp only [Act.put]);try simp only [sA,sZ,sS]
           refine rG 11 ?_ ?_ ?_ ?_ ?_ ?_ hCl hHeld ?_;rotate_left 2
           ·simp only [gA,gS,gZ]; exact rfl
           ·intro l w'; rw [hSSs, hSSs]
           ·rfl
           ·intro w' hA;clear hA;go_simp;try with_reducible rfl
           clear hCl hHeld
           intro hCl hHeld
           simp only [sA,sZ,sS] at hCl hHeld
           (try simp only [Act.put]);try simp only [sA,sZ,sS]
           refine rG 12 ?_ ?_ ?_ ?_ ?_ ?_ hCl hHeld ?_;rotate_left 2
           ·simp only [gA,gS,gZ]; exact rfl
           ·intro l w'; rw [hSSs, hSSs]
           ·rfl
           ·intro w' hA; obtain ⟨l, hl, hi, hSl⟩ := hA; have hSl := (hSSs _ _).1 hSl; obtain ⟨hz0, hz1⟩ := hSl; go_simp; try with_reducible rfl
           clear hCl hHeld
           intro hCl hHeld
           simp only [sA,sZ,sS] at hCl hHeld
           (try simp only [Act.put]);try simp only [sA,sZ,sS]
           refine rG 13 ?_ ?_ ?_ ?_ ?_ ?_ hCl hHeld ?_;rotate_left 2
           ·simp only [gA,gS,gZ]; exact rfl
           ·intro l w'; rw [hSSs, hSSs]
           ·rfl
           ·intro w' hA;clear hA;go_simp;try with_reducible rfl
           clear hCl hHeld
           intro hCl hHeld
           simp only [sA,sZ,sS] at hCl hHeld
           (try simp only [Act.put]);try simp only [sA,sZ,sS]
           refine rG 14 ?_ ?_ ?_ ?_ ?_ ?_ hCl hHeld ?_;rotate_left 2
           ·simp only [gA,gS,gZ]; exact rfl
           ·intro l w'; rw [hSSs, hSSs]
           ·rfl
           ·intro w' hA;clear hA;go_simp;try with_reducible rfl
           clear hCl hHeld
           intro hCl hHeld
           simp only [sA,sZ,sS] at hCl hHeld
           (try simp only [Act.put]);try simp only [sA,sZ,sS]
           refine rG 15 ?_ ?_ ?_ ?_ ?_ ?_ hCl hHeld ?_;rotate_left 2
           ·simp only [gA,gS,gZ]; exact rfl
           ·intro l w'; rw [hSSs, hSSs]
           ·rfl
           ·intro w' hA;clear hA;go_simp;try with_reducible rfl
           clear hCl hHeld
           intro hCl hHeld
           simp only [sA,sZ,sS] at hCl hHeld
           (try simp only [Act.put]);try simp only [sA,sZ,sS]
           refine rG 16 ?_ ?_ ?_ ?_ ?_ ?_ hCl hHeld ?_;rotate_left 2
           ·simp only [gA,gS,gZ]; exact rfl
           ·intro l w'; rw [hSSs, hSSs]
           ·rfl
           ·intro w' hA;clear hA;go_simp;try with_reducible rfl
           clear hCl hHeld
           intro hCl hHeld
           simp only [sA,sZ,sS] at hCl hHeld
           (try simp only [Act.put]);try simp only [sA,sZ,sS]
           refine rG 17 ?_ ?_ ?_ ?_ ?_ ?_ hCl hHeld ?_;rotate_left 2
           ·simp only [gA,gS,gZ]; exact rfl
           ·intro l w'; rw [hSSs, hSSs]
           ·rfl
           ·intro w' hA; obtain ⟨l, hl, hi, hSl⟩ := hA; have hSl := (hSSs _ _).1 hSl; obtain ⟨hz0, hz1⟩ := hSl; go_simp; try with_reducible rfl
           clear hCl hHeld
           intro hCl hHeld
           simp only [sA,sZ,sS] at hCl hHeld
           (try simp only [Act.put]);try simp only [sA,sZ,sS]
           refine rG 18 ?_ ?_ ?_ ?_ ?_ ?_ hCl hHeld ?_;rotate_left 2
           ·simp only [gA,gS,gZ]; exact rfl
           ·intro l w'; rw [hSSs, hSSs]
           ·rfl
           ·intro w' hA;clear hA;go_simp;try with_reducible rfl
           clear hCl hHeld
           intro hCl hHeld
           simp only [sA,sZ,sS] at hCl hHeld
           (try simp only [Act.put]);try simp only [sA,sZ,sS]
           refine rG 19 ?_ ?_ ?_ ?_ ?_ ?_ hCl hHeld ?_;rotate_left 2
           ·simp only [gA,gS,gZ]; exact rfl
           ·intro l w'; rw [hSSs, hSSs]
           ·rfl
           ·intro w' hA;clear hA;go_simp;try with_reducible rfl
           clear hCl hHeld
           intro hCl hHeld
           simp only [sA,sZ,sS] at hCl hHeld
           (try simp only [Act.put]);try simp only [sA,sZ,sS]
           clear hCl hHeld
           refine reg_callG 20 ?_ (by kernel_rfl) ?_ (fun K hK => ?_);rotate_left 1
           ·simp only [gA,gS,gZ]; exact rfl
           go_simp
           clear hx0 hx1 hup
           refine hK.out _ _ ((hSSs _ _).2 ⟨hy0, hy1⟩) ?_
           clear hK K
           (try simp only [Act.put]);try simp only [sA,sZ,sS]
           refine wpAnyG_done (by kernel_rfl) ?_ _
           refine NoPanic.normal ?_
           clear hSSs SSs
           go_wp2
           have hnn := HNN.out
           refine ⟨⟨_, _, _, _, _, _, _, _, _, _, _, _, _, _, _, _, _, _, _, _, _, _, _, _, _, _, _, _, _, _, _, _, _, _, ?_, rfl⟩, by simp [intOf]⟩
           exact ⟨2 + 1, by omega, by go_num, congrArg (Value.int .i64) (by omega), ⟨_, FIN.out.1⟩, FIN.out.2.1, FIN.out.2.2⟩
        ·obtain rfl : i = 3 := by omega
         have FIN := Lib.hid (And.intro hF2 hbw)
         clear hF2 hbw hbx
         go_wp2
         exact ⟨⟨j + 1, by omega, by go_num, congrArg (Value.int .i64) (by omega), ⟨_, FIN.out.1⟩, FIN.out.2⟩, by simp [intOf]; omega⟩
      ·obtain rfl : j = 2 := by omega
       have hgl := HM.out.len
       obtain ⟨⟨ta, tb, tc⟩, h0⟩ : ∃ v, (gridT 1 1 bn)[0]? = some v := ⟨_, List.getElem?_eq_getElem (by omega)⟩
       have hz := HM.out.one _ (List.mem_of_getElem? h0)
       simp only [] at hz
       have hb7 : Below w7.heap.size w7 wr := by rw [HFB.out]; exact hbw
       have hpr : RowN wr (w.heap.size + 1) 24 2 (.slice (some ⟨gp, 0, none⟩) 4 gpc) 4 (ptsCells (gridP 1 1)) := (HROW.out.below HBT.out).below hb7
       have htr := HTR.out.below hb7
       have hbu := Build_any F (gridT 1 1 bn) ta tb tc fb gt 2 gtc gp 4 gpc (gridP 1 1) wr OK.out.good h0 hz (by omega) (by omega) OK.out.pts htr hF rfl (by omega) (by omega) HPS.out hpr.ptsC HM.out.some_ (by have := HM.out.few; omega) HM.out.ends
       have HBU := Lib.hid hbu; have HTRR := Lib.hid htr
       have HBWR := Lib.hid (HBW.out.trans ((HBT.out.trans (hb7.mono HBT.out.size)).mono HBW.out.size))
       have hgt := HGTL.out.1; have hsz5 := HBW.out.size
       clear hbu htr hpr hb7 hF hbw hz h0 hgl
       go_wp2_with fail
       refine HBU.out.mono ?_
       rintro e w9 ⟨mb, rfl, hbe, hb9⟩
       have hbs := HBWR.out.size
       have FIN := Lib.hid (And.intro (hbe.low hbs) (And.intro (HTRR.out.below hb9) (HBWR.out.trans (hb9.mono hbs))))
       clear hbe hb9
       go_wp2
       go_ret2
       exact ⟨mb, gt, gtc, F, rfl, FIN.out.1, FIN.out.2.1, by omega, FIN.out.2.2⟩
end Go.Proofs.YtnabdopnlinklaaGreat
/- The statements' Grid, 1 by 2. -/
namespace Go.Proofs.YtnabdopnlinklaaGreat
open Go.RowKit Go.MagM
set_option maxRecDepth 100000 in
set_option maxHeartbeats 16000000 in
theorem Grid12_any (w0 h0 b f : Int) (bn : Nat) (hbn : bn < 16) (e1 : bits .and .i64 w0 1 = 0) (e2 : bits .and .i64 h0 1 = 1) (hbit : ∀ k : Nat, k < 4 → bitB b k = bn.testBit k) (w : World) :
  Calls Tryz.prog 34 #[.int .i64 w0, .int .i64 h0, .int .u32 b, .int .u32 f] w fun e w' => ∃ (mb g c : Nat) (F : Int → Int → Bool), e = .returned (.tuple #[.pointer (some ⟨mb, 0, none⟩), .slice (some ⟨g, 0, none⟩) 4 c]) ∧ BuildEnd 24 37 F w.heap.size (gridP 1 2) (gridT 1 2 bn) mb w' ∧ TrIn w' g ((gridT 1 2 bn).map realV) ∧ w.heap.size ≤ g ∧ Below w.heap.size w w' := by
 have ok := grid_ok (w := 1) (h := 2) (by omega) (by omega) hbn
 have hm := grid_has (w := 1) (h := 2) (by omega) (by omega) hbn
 have hps : InPs (gridP 1 2) := grid_inPs (by omega) (by omega)
 have OK := Lib.hid ok; have HM := Lib.hid hm; have HPS := Lib.hid hps; have HBIT := Lib.hid hbit
 clear ok hm hps hbit
 obtain ⟨i0, hi, hz0, hz1, hz2⟩ := info_parts infoPt
 have HI := Lib.hid hi; have HZ0 := Lib.hid hz0; have HZ1 := Lib.hid hz1; have HZ2 := Lib.hid hz2
 obtain ⟨j0, hj, hy0, hy1, hy2⟩ := info_parts infoE3
 have HJ := Lib.hid hj; have HY0 := Lib.hid hy0; have HY1 := Lib.hid hy1; have HY2 := Lib.hid hy2
 clear hi hz0 hz1 hz2 hj hy0 hy1 hy2
 obtain ⟨w1, hw1, pw0, hB1, hs1⟩ := new_box w _ rfl [.int .i64 w0] 3
 have sc := pw0.c 0 _ rfl; have sf := pw0.f 0 _ rfl
 obtain ⟨w2, hw2⟩ : ∃ w2, w1.setCell ⟨w.heap.size, 0, none⟩ (.int .i64 1) = w2 := ⟨_, rfl⟩
 have pw2 : Box w2 w.heap.size [.int .i64 1] := by rw [← hw2]; exact pw0.set 0 (.int .i64 1)
 have hB2 : Below w.heap.size w w2 := by rw [← hw2]; exact hB1.setCell (p := ⟨w.heap.size, 0, none⟩) (by simp only []; omega) _
 have hz2 : w.heap.size + 1 ≤ w2.heap.size := by have := pw2.lt; omega
 have PW2 := Lib.hid pw2; have HB2 := Lib.hid hB2; have HZS := Lib.hid hz2
 clear pw0 hB1 hs1 pw2 hB2 hz2
 go_enter Tryz.func34, Tryz.ntmps34
 go_wp2
 clear sc sf hw1 hw2
 go_loopw [10, 11, 12, 35] (fun pv _ _ iv wr => ∃ (y : Nat) (vv : Value), y ≤ 3 ∧ iv = .int .i64 (y : Int) ∧ vv = pv ∧ RowN wr (w.heap.size + 1) 24 2 vv (y * 2) (ptsCells ((gridP 1 2).take (y * 2))) ∧ Box wr w.heap.size [.int .i64 1] ∧ Below w.heap.size w wr ∧ w.heap.size + 1 ≤ wr.heap.size) (fun _ _ _ iv _ => 3 - (intOf iv).toNat)
 case atStart => exact ⟨0, _, Nat.zero_le _, rfl, rfl, RowN.nil _ _ _ _, PW2.out, HB2.out, HZS.out⟩
 case round =>
  obtain ⟨y, vv, hy, rfl, rfl, hrow, hbx, hbw, hsz⟩ := hrel
  by_cases hlt : y < 3
  ·have hyd : decide ((y : Int) < 3) = true := decide_eq_true (by omega)
   have cw := hbx.c 0 _ rfl
   have HROW := Lib.hid hrow; have HBX := Lib.hid hbx; have HBW := Lib.hid hbw; have HSZ := Lib.hid hsz
   clear hrow hbx hbw hsz
   go_wp2
   clear cw
   go_loopw [10, 12, 40] (fun pv _ iv wr => ∃ (x : Nat) (vv : Value), x ≤ 2 ∧ iv = .int .i64 (x : Int) ∧ vv = pv ∧ RowN wr (w.heap.size + 1) 24 2 vv (y * 2 + x) (ptsCells ((gridP 1 2).take (y * 2 + x))) ∧ Box wr w.heap.size [.int .i64 1] ∧ Below w.heap.size w wr ∧ w.heap.size + 1 ≤ wr.heap.size) (fun _ _ iv _ => 2 - (intOf iv).toNat)
   case atStart => exact ⟨0, _, Nat.zero_le _, rfl, rfl, HROW.out, HBX.out, HBW.out, HSZ.out⟩
   case round =>
    obtain ⟨x, vv, hx, rfl, rfl, hrow, hbx, hbw, hsz⟩ := hrel
    by_cases hlx : x < 2
    ·have hel := gridP_at (w := 1) (h := 2) (by omega) (by omega) (x := x) (y := y) (by omega) (by omega)
     have hx2 : IntKind.i64.wrap (2 * (x : Int)) = 2 * (x : Int) := by rw [IntKind.wrap_i64]; omega
     have hy2 : IntKind.i64.wrap (2 * (y : Int)) = 2 * (y : Int) := by rw [IntKind.wrap_i64]; omega
     obtain ⟨w3, hw3, hpn, hb3, hs3⟩ := new_box wr _ rfl [.int .i64 (2 * (x : Int)), .int .i64 (2 * (y : Int))] 24
     have hrow3 := hrow.below hb3
     have hbx3 := hbx.below hb3
     have hbw3 := hbw.trans (hb3.mono hbw.size)
     obtain ⟨v1, w4, hrun, rown, hgrow, hkept⟩ := run_append_row (P := Tryz.prog) w3 (w.heap.size + 1) 38 38 24 i0 (.agg #[.int .i64 0, .int .i64 0]) 2 16 (by kernel_rfl) HI.out HZ0.out HZ1.out HZ2.out rfl (noWordI2 _ _) _ (y * 2 + x) _ hrow3 ⟨wr.heap.size, 0, none⟩ 1 1 [.int .i64 (2 * (x : Int)), .int .i64 (2 * (y : Int))] (by omega) rfl hpn.news (by intro u hu; simp at hu; rcases hu with rfl | rfl <;> rfl) (noWordI2 _ _) (by unfold maxLen; omega) (by omega) (by omega)
     have hne : ∀ k, vv.ownBlock = some k → w.heap.size + 1 ≤ k := fun k hk => (hrow3.lt k hk).1
     have hbx4 := hbx3.grown hgrow (fun e => by have := hne _ e; omega) hbx3.lt
     have hbw4 : Below w.heap.size w w4 := hbw3.grown hgrow (by omega) (fun k hk => by have := hne k hk; omega)
     have htk : ptsCells ((gridP 1 2).take (y * 2 + x)) ++ [.int .i64 (2 * (x : Int)), .int .i64 (2 * (y : Int))] = ptsCells ((gridP 1 2).take (y * 2 + (x + 1))) := by
      rw [← Nat.add_assoc, List.take_add_one, hel, ptsCells_app]; rfl
     rw [htk] at rown
     have FIN := Lib.hid (And.intro rown (And.intro hbx4 (And.intro hbw4 (show w.heap.size + 1 ≤ w4.heap.size by have := hgrow.size; omega))))
     clear hrow hbx hbw hsz hpn hb3 hs3 hrow3 hbx3 hbw3 rown hgrow hkept hne hbx4 hbw4 htk hel
     go_wp2_with (refine wpList_append_row rfl _ _ 38 rfl rfl rfl hrun ?_)
     have FI := FIN.out
     exact ⟨⟨x + 1, _, by omega, by go_num, rfl, FI.1, FI.2.1, FI.2.2.1, FI.2.2.2⟩, by simp [intOf]; omega⟩
    ·obtain rfl : x = 2 := by omega
     have FIN := Lib.hid (And.intro hrow (And.intro hbx (And.intro hbw hsz)))
     clear hrow hbx hbw hsz
     go_wp2
     have FI := FIN.out
     have hrow := FI.1
     rw [show y * 2 + 2 = (y + 1) * 2 by omega] at hrow
     exact ⟨⟨y + 1, _, by omega, by go_num, rfl, hrow, FI.2.1, FI.2.2.1, FI.2.2.2⟩, by simp [intOf]; omega⟩
  ·obtain rfl : y = 3 := by omega
   have hpt : (gridP 1 2).take (3 * 2) = gridP 1 2 := rfl
   rw [hpt] at hrow
   obtain ⟨gp, gpc, hvv⟩ : ∃ g c, vv = .slice (some ⟨g, 0, none⟩) 6 c := by
    rcases hrow.2 with ⟨h1, h2⟩ | ⟨g, cap, cur, h1, h2, h3⟩
    ·omega
    ·exact ⟨g, cap, h1⟩
   subst hvv
   have hpl := hrow.lt gp rfl
   obtain ⟨w5, hw5⟩ : ∃ w5, w5 = wr := ⟨_, rfl⟩
   rw [← hw5] at hrow hbx hbw hsz hpl
   rw [← hw5]
   have HROW := Lib.hid hrow; have HBX := Lib.hid hbx; have HBW := Lib.hid hbw; have HSZ := Lib.hid hsz; have HPL := Lib.hid hpl
   clear hrow hbx hbw hsz hpl hw5
   go_wp2
   go_loopw [13, 15, 16, 17, 18, 19, 20, 21, 55] (fun tv kv _ _ _ _ _ _ iv wr => ∃ (y : Nat) (vv : Value), y ≤ 2 ∧ iv = .int .i64 (y : Int) ∧ kv = .int .i64 ((y * 1 : Nat) : Int) ∧ vv = tv ∧ RowN wr w5.heap.size 34 3 vv (2 * (y * 1)) (tr3Cells ((gridT 1 2 bn).take (2 * (y * 1)))) ∧ Below w5.heap.size w5 wr) (fun _ _ _ _ _ _ _ _ iv _ => 2 - (intOf iv).toNat)
   case atStart => exact ⟨0, _, Nat.zero_le _, rfl, rfl, rfl, RowN.nil _ _ _ _, Below.refl _ _⟩
   case round =>
    obtain ⟨y, vv, hy, rfl, rfl, rfl, hrow, hbw⟩ := hrel
    by_cases hlt : y < 2
    ·have hyd : decide ((y : Int) < 2) = true := decide_eq_true (by omega)
     have cw := (HBX.out.below hbw).c 0 _ rfl
     have HRW := Lib.hid hrow; have HBZ := Lib.hid hbw
     clear hrow hbw
     go_wp2
     clear cw
     go_loopw [13, 15, 17, 18, 19, 20, 21, 59] (fun tv kv _ _ _ _ _ iv wr => ∃ (x : Nat) (vv : Value), x ≤ 1 ∧ iv = .int .i64 (x : Int) ∧ kv = .int .i64 ((y * 1 + x : Nat) : Int) ∧ vv = tv ∧ RowN wr w5.heap.size 34 3 vv (2 * (y * 1 + x)) (tr3Cells ((gridT 1 2 bn).take (2 * (y * 1 + x)))) ∧ Below w5.heap.size w5 wr) (fun _ _ _ _ _ _ _ iv _ => 1 - (intOf iv).toNat)
     case atStart => exact ⟨0, _, Nat.zero_le _, rfl, by rw [Nat.add_zero], rfl, HRW.out, HBZ.out⟩
     case round =>
      obtain ⟨x, vv, hx, rfl, rfl, rfl, hrow, hbw⟩ := hrel
      by_cases hlx : x < 1
      ·have cw := (HBX.out.below hbw).c 0 _ rfl
       have hev := HM.out.even y x hlt hlx
       have hod := HM.out.odd y x hlt hlx
       have hbt := HBIT.out (y * 1 + x) (by omega)
       obtain ⟨q, hq⟩ : ∃ q, bn.testBit (y * 1 + x) = q := ⟨_, rfl⟩
       rw [hq] at hev hod hbt
       have a0 := gridNo_any w.heap.size 1 x y wr (by omega) (by omega) (by omega) cw ((y : Int) * 2 + (x : Int)) (by omega)
       have a1 := gridNo_any w.heap.size 1 (x + 1) y wr (by omega) (by omega) (by omega) cw ((y : Int) * 2 + ((x : Int) + 1)) (by omega)
       have a2 := gridNo_any w.heap.size 1 (x + 1) (y + 1) wr (by omega) (by omega) (by omega) cw (((y : Int) + 1) * 2 + ((x : Int) + 1)) (by omega)
       have a3 := gridNo_any w.heap.size 1 x (y + 1) wr (by omega) (by omega) (by omega) cw (((y : Int) + 1) * 2 + (x : Int)) (by omega)
       rw [show (((x + 1 : Nat)) : Int) = (x : Int) + 1 by omega] at a1 a2
       rw [show (((y + 1 : Nat)) : Int) = (y : Int) + 1 by omega] at a2 a3
       obtain ⟨ca, hca⟩ : ∃ c : Int, (y : Int) * 2 + (x : Int) = c := ⟨_, rfl⟩
       obtain ⟨cb, hcb⟩ : ∃ c : Int, (y : Int) * 2 + ((x : Int) + 1) = c := ⟨_, rfl⟩
       obtain ⟨cc, hcc⟩ : ∃ c : Int, ((y : Int) + 1) * 2 + ((x : Int) + 1) = c := ⟨_, rfl⟩
       obtain ⟨cd, hcd⟩ : ∃ c : Int, ((y : Int) + 1) * 2 + (x : Int) = c := ⟨_, rfl⟩
       rw [hca] at a0; rw [hcb] at a1; rw [hcc] at a2; rw [hcd] at a3
       have C0 := Lib.hid a0; have C1 := Lib.hid a1; have C2 := Lib.hid a2; have C3 := Lib.hid a3
       have HEV := Lib.hid hev; have HOD := Lib.hid hod; have HBT := Lib.hid hbt; have HRW2 := Lib.hid hrow; have HBZ2 := Lib.hid hbw
       have HCA := Lib.hid hca; have HCB := Lib.hid hcb; have HCC := Lib.hid hcc; have HCD := Lib.hid hcd
       obtain ⟨kk, hkk⟩ : ∃ kk : Nat, y * 1 + x = kk := ⟨_, rfl⟩
       have hkk4 : kk < 4 := by omega
       rw [hkk] at hbt
       unfold bitB at hbt
       have na : (((y * 2 + x : Nat)) : Int) = ca := by omega
       have nb : (((y * 2 + (x + 1) : Nat)) : Int) = cb := by omega
       have nc : ((((y + 1) * 2 + (x + 1) : Nat)) : Int) = cc := by omega
       have nd : ((((y + 1) * 2 + x : Nat)) : Int) = cd := by omega
       have HKK := Lib.hid hkk
       rw [hkk]
       have HNA := Lib.hid (And.intro na (And.intro nb (And.intro nc nd)))
       clear a0 a1 a2 a3 hev hod hrow hbw hca hcb hcc hcd cw hkk na nb nc nd hq
       cases q
       ·have hev' : (gridT 1 2 bn)[2 * (y * 1 + x)]? = some (y * 2 + (x + 1), (y + 1) * 2 + x, y * 2 + x) := HEV.out
        have hod' : (gridT 1 2 bn)[2 * (y * 1 + x) + 1]? = some ((y + 1) * 2 + x, y * 2 + (x + 1), (y + 1) * 2 + (x + 1)) := HOD.out
        have HEV' := Lib.hid hev'; have HOD' := Lib.hid hod'
        clear hev' hod'
        go_wp2_with fail
        refine C0.out.mono ?_
        rintro e w6 ⟨rfl, rfl⟩
        go_wp2_with fail
        refine C1.out.mono ?_
        rintro e w6 ⟨rfl, rfl⟩
        go_wp2_with fail
        refine C2.out.mono ?_
        rintro e w6 ⟨rfl, rfl⟩
        go_wp2_with fail
        refine C3.out.mono ?_
        rintro e w6 ⟨rfl, rfl⟩
        obtain ⟨w6, hw6, hpn, hb6, hs6⟩ := new_box wr _ rfl [.int .i64 cb, .int .i64 cd, .int .i64 ca, .int .i64 cd, .int .i64 cb, .int .i64 cc] 34
        have hrow6 := HRW2.out.below hb6
        have hbw6 := HBZ2.out.trans (hb6.mono HBZ2.out.size)
        obtain ⟨v1, w7, hrun, rown, hgrow, hkept⟩ := run_append_row (P := Tryz.prog) w6 w5.heap.size 78 78 34 j0 (.agg #[.int .i64 0, .int .i64 0, .int .i64 0]) 3 24 (by kernel_rfl) HJ.out HY0.out HY1.out HY2.out rfl (noWordI3 _ _ _) _ (2 * (y * 1 + x)) _ hrow6 ⟨wr.heap.size, 0, none⟩ 2 2 [.int .i64 cb, .int .i64 cd, .int .i64 ca, .int .i64 cd, .int .i64 cb, .int .i64 cc] (by omega) rfl hpn.news (by intro u hu; simp at hu; rcases hu with rfl | rfl | rfl | rfl | rfl | rfl <;> rfl) (noWordI6 _ _ _ _ _ _) (by unfold maxLen; omega) (by omega) (by have := hbw6.size; omega)
        have hbw7 : Below w5.heap.size w5 w7 := hbw6.grown hgrow (by have := hbw6.size; omega) (fun k hk => (hrow6.lt k hk).1)
        have htk : tr3Cells ((gridT 1 2 bn).take (2 * (y * 1 + x))) ++ [.int .i64 cb, .int .i64 cd, .int .i64 ca, .int .i64 cd, .int .i64 cb, .int .i64 cc] = tr3Cells ((gridT 1 2 bn).take (2 * (y * 1 + (x + 1)))) := by
         obtain ⟨na, nb, nc, nd⟩ := HNA.out
         rw [show 2 * (y * 1 + (x + 1)) = 2 * (y * 1 + x) + 1 + 1 by omega, List.take_add_one, List.take_add_one, HEV'.out, HOD'.out, tr3_app, tr3_app, List.append_assoc]
         simp only [Option.toList_some, tr3Cells, na, nb, nc, nd, List.cons_append, List.nil_append]
        rw [htk, show 2 * (y * 1 + x) + 2 = 2 * (y * 1 + (x + 1)) by omega] at rown
        have FIN := Lib.hid (And.intro rown hbw7)
        clear hpn hb6 hs6 hrow6 hbw6 rown hgrow hkept hbw7 htk
        go_wp2_with (refine wpList_append_row rfl _ _ 78 rfl rfl rfl hrun ?_)
        have hkk := HKK.out
        refine ⟨⟨_, _, _, _, _, _, _, _, _, _, _, _, _, _, _, _, _, _, _, _, _, _, _, _, _, _, _, _, _, _, _, _, _, _, _, _, _, _, _, _, _, _, _, _, _, _, _, _, _, _, _, _, _, _, _, _, _, _, _, _, ?_, rfl⟩, by simp [intOf]; omega⟩
        exact ⟨x + 1, _, by omega, by go_num, congrArg (Value.int .i64) (by omega), rfl, FIN.out.1, FIN.out.2⟩
       ·have hev' : (gridT 1 2 bn)[2 * (y * 1 + x)]? = some (y * 2 + x, y * 2 + (x + 1), (y + 1) * 2 + (x + 1)) := HEV.out
        have hod' : (gridT 1 2 bn)[2 * (y * 1 + x) + 1]? = some ((y + 1) * 2 + (x + 1), (y + 1) * 2 + x, y * 2 + x) := HOD.out
        have HEV' := Lib.hid hev'; have HOD' := Lib.hid hod'
        clear hev' hod'
        go_wp2_with fail
        refine C0.out.mono ?_
        rintro e w6 ⟨rfl, rfl⟩
        go_wp2_with fail
        refine C1.out.mono ?_
        rintro e w6 ⟨rfl, rfl⟩
        go_wp2_with fail
        refine C2.out.mono ?_
        rintro e w6 ⟨rfl, rfl⟩
        go_wp2_with fail
        refine C3.out.mono ?_
        rintro e w6 ⟨rfl, rfl⟩
        obtain ⟨w6, hw6, hpn, hb6, hs6⟩ := new_box wr _ rfl [.int .i64 ca, .int .i64 cb, .int .i64 cc, .int .i64 cc, .int .i64 cd, .int .i64 ca] 34
        have hrow6 := HRW2.out.below hb6
        have hbw6 := HBZ2.out.trans (hb6.mono HBZ2.out.size)
        obtain ⟨v1, w7, hrun, rown, hgrow, hkept⟩ := run_append_row (P := Tryz.prog) w6 w5.heap.size 78 78 34 j0 (.agg #[.int .i64 0, .int .i64 0, .int .i64 0]) 3 24 (by kernel_rfl) HJ.out HY0.out HY1.out HY2.out rfl (noWordI3 _ _ _) _ (2 * (y * 1 + x)) _ hrow6 ⟨wr.heap.size, 0, none⟩ 2 2 [.int .i64 ca, .int .i64 cb, .int .i64 cc, .int .i64 cc, .int .i64 cd, .int .i64 ca] (by omega) rfl hpn.news (by intro u hu; simp at hu; rcases hu with rfl | rfl | rfl | rfl | rfl | rfl <;> rfl) (noWordI6 _ _ _ _ _ _) (by unfold maxLen; omega) (by omega) (by have := hbw6.size; omega)
        have hbw7 : Below w5.heap.size w5 w7 := hbw6.grown hgrow (by have := hbw6.size; omega) (fun k hk => (hrow6.lt k hk).1)
        have htk : tr3Cells ((gridT 1 2 bn).take (2 * (y * 1 + x))) ++ [.int .i64 ca, .int .i64 cb, .int .i64 cc, .int .i64 cc, .int .i64 cd, .int .i64 ca] = tr3Cells ((gridT 1 2 bn).take (2 * (y * 1 + (x + 1)))) := by
         obtain ⟨na, nb, nc, nd⟩ := HNA.out
         rw [show 2 * (y * 1 + (x + 1)) = 2 * (y * 1 + x) + 1 + 1 by omega, List.take_add_one, List.take_add_one, HEV'.out, HOD'.out, tr3_app, tr3_app, List.append_assoc]
         simp only [Option.toList_some, tr3Cells, na, nb, nc, nd, List.cons_append, List.nil_append]
        rw [htk, show 2 * (y * 1 + x) + 2 = 2 * (y * 1 + (x + 1)) by omega] at rown
        have FIN := Lib.hid (And.intro rown hbw7)
        clear hpn hb6 hs6 hrow6 hbw6 rown hgrow hkept hbw7 htk
        go_wp2_with (refine wpList_append_row rfl _ _ 78 rfl rfl rfl hrun ?_)
        have hkk := HKK.out
        refine ⟨⟨_, _, _, _, _, _, _, _, _, _, _, _, _, _, _, _, _, _, _, _, _, _, _, _, _, _, _, _, _, _, _, _, _, _, _, _, _, _, _, _, _, _, _, _, _, _, _, _, _, _, _, _, _, _, _, _, _, _, _, _, ?_, rfl⟩, by simp [intOf]; omega⟩
        exact ⟨x + 1, _, by omega, by go_num, congrArg (Value.int .i64) (by omega), rfl, FIN.out.1, FIN.out.2⟩
      ·obtain rfl : x = 1 := by omega
       have FIN := Lib.hid (And.intro hrow hbw)
       clear hrow hbw
       go_wp2
       have hrow := FIN.out.1
       rw [show y * 1 + 1 = (y + 1) * 1 by omega] at hrow
       exact ⟨⟨y + 1, _, by omega, by go_num, congrArg (Value.int .i64) (by omega), rfl, hrow, FIN.out.2⟩, by simp [intOf]; omega⟩
    ·obtain rfl : y = 2 := by omega
     have hgl := HM.out.len
     have htt : (gridT 1 2 bn).take (2 * (2 * 1)) = gridT 1 2 bn := List.take_of_length_le (by rw [hgl]; omega)
     rw [htt] at hrow
     obtain ⟨gt, gtc, hvv⟩ : ∃ g c, vv = .slice (some ⟨g, 0, none⟩) 4 c := by
      rcases hrow.2 with ⟨h1, h2⟩ | ⟨g, cap, cur, h1, h2, h3⟩
      ·omega
      ·exact ⟨g, cap, h1⟩
     subst hvv
     have hgtl := hrow.lt gt rfl
     obtain ⟨w7, hw7⟩ : ∃ w7, w7 = wr := ⟨_, rfl⟩
     rw [← hw7] at hrow hbw hgtl
     rw [← hw7]
     clear hw7
     obtain ⟨fb, hfb⟩ : ∃ fb, w7.heap.size = fb := ⟨_, rfl⟩
     obtain ⟨hmk, hmp⟩ := run_new_map (P := Tryz.prog) w7 137 138
     obtain ⟨w8, hw8⟩ : ∃ w8, w7.alloc (.map #[] 0) = w8 := ⟨_, rfl⟩
     rw [hw8, hfb] at hmk hmp
     have hb8 : Below fb w7 w8 := by rw [← hw8, ← hfb]; exact (Below.refl _ _).alloc (Nat.le_refl _) _
     have htr := hrow.trIn
     have HRWT := Lib.hid hrow; have HBT := Lib.hid hbw; have HTR := Lib.hid htr; have HGTL := Lib.hid hgtl; have HFB := Lib.hid hfb; have HMP := Lib.hid (fault_new hmp); have HB8 := Lib.hid hb8
     clear hrow hbw htr hgtl hfb hmp hb8 hw8
     go_wp2
     clear hmk
     go_loopw [23, 25, 26, 116] (fun nv _ _ iv wr => ∃ j : Nat, j ≤ 4 ∧ iv = .int .i64 (j : Int) ∧ nv = .int .i64 ((3 * j : Nat) : Int) ∧ (∃ F, FaultMap Tryz.prog 138 wr fb F) ∧ Below fb w7 wr) (fun _ _ _ iv _ => 4 - (intOf iv).toNat)
     case atStart => exact ⟨0, Nat.zero_le _, rfl, rfl, ⟨_, HMP.out⟩, HB8.out⟩
     case round =>
      obtain ⟨j, hj, rfl, rfl, ⟨F, hF⟩, hbw⟩ := hrel
      by_cases hlt : j < 4
      ·have hyd : decide ((j : Int) < 4) = true := decide_eq_true (by omega)
       obtain ⟨⟨x, y, z⟩, hv⟩ : ∃ v, (gridT 1 2 bn)[j]? = some v := ⟨_, List.getElem?_eq_getElem (by have := HM.out.len; omega)⟩
       obtain ⟨px, py, pz⟩ := OK.out.pts _ (List.mem_of_getElem? hv)
       have hpl6 := OK.out.many
       simp only [] at px py pz
       have htk := HTR.out j (x : Int) (y : Int) (z : Int) (by rw [List.getElem?_map, hv]; rfl)
       have hfb := HFB.out
       have l1 := World.block_lt_of_cell? w7 _ htk.1
       simp only [] at l1
       have ka := (hbw.cell (p := ⟨gt, j * 3, none⟩) (by show gt < fb; omega)).trans htk.1
       have kb := (hbw.cell (p := ⟨gt, j * 3 + 1, none⟩) (by show gt < fb; omega)).trans htk.2.1
       have kc := (hbw.cell (p := ⟨gt, j * 3 + 2, none⟩) (by show gt < fb; omega)).trans htk.2.2
       obtain ⟨w9, hw9, hpv, hb9, hs9⟩ := new_box wr _ rfl [.int .i64 (x : Int), .int .i64 (y : Int), .int .i64 (z : Int)] 34
       have hF9 := hF.same (hb9.block fb hF.lt)
       have hfl := hF.lt
       have hbw9 : Below fb w7 w9 := hbw.trans (hb9.mono (by omega))
       obtain ⟨tb, htb⟩ : ∃ tb, wr.heap.size = tb := ⟨_, rfl⟩
       have htf : fb < tb := by omega
       rw [htb] at hpv
       have HF9 := Lib.hid hF9; have HBW9 := Lib.hid hbw9; have HPV := Lib.hid hpv
       have hxyz : x < 10 ∧ y < 10 ∧ z < 10 := by
        have : (gridP 1 2).length = 6 := rfl
        omega
       clear hv px py pz htk hfb l1 hb9 hs9 hF9 hbw9 hpv hF hbw hfl hpl6
       go_wp2
       clear ka kb kc hw9 htb
       go_loopw [23, 26, 120] (fun nv _ iv wr => ∃ i : Nat, i ≤ 3 ∧ iv = .int .i64 (i : Int) ∧ nv = .int .i64 ((3 * j + i : Nat) : Int) ∧ (∃ F, FaultMap Tryz.prog 138 wr fb F) ∧ Box wr tb [.int .i64 (x : Int), .int .i64 (y : Int), .int .i64 (z : Int)] ∧ Below fb w7 wr) (fun _ _ iv _ => 3 - (intOf iv).toNat)
       case atStart => exact ⟨0, Nat.zero_le _, rfl, rfl, ⟨_, HF9.out⟩, HPV.out, HBW9.out⟩
       case round =>
        obtain ⟨i, hi, rfl, rfl, ⟨F2, hF2⟩, hbx, hbw⟩ := hrel
        by_cases hli : i < 3
        ·obtain ⟨nn, hnn⟩ : ∃ nn : Nat, 3 * j + i = nn := ⟨_, rfl⟩
         have hnn24 : nn < 24 := by omega
         have HNN := Lib.hid hnn
         rw [hnn]
         clear hnn
         have HF2 := Lib.hid hF2; have HBX2 := Lib.hid hbx; have HBW2 := Lib.hid hbw
         clear hF2 hbx hbw
         obtain ⟨q, hq⟩ : ∃ q : Bool, (bits .and .u32 (f / 2 ^ (nn % 32)) 1 == 1) = q := ⟨_, rfl⟩
         have hfb2 := HF2.out.lt
         have hd3 := (HF2.out.same (w' := wr.drew) rfl)
         have hx3 := HBX2.out.drew
         have hw3 := HBW2.out.drew'
         have HF3 := Lib.hid hd3; have HBX3 := Lib.hid hx3; have HBW3 := Lib.hid hw3
         clear hd3 hx3 hw3
         cases q
         ·go_wp2
          have hnn := HNN.out
          exact ⟨⟨i + 1, by omega, by go_num, congrArg (Value.int .i64) (by omega), ⟨_, HF2.out⟩, HBX2.out, HBW2.out⟩, by simp [intOf]; omega⟩
         ·obtain rfl | rfl | rfl : i = 0 ∨ i = 1 ∨ i = 2 := by omega
          ·obtain ⟨mn, hmn⟩ : ∃ mn : Int, (if (y : Int) < (x : Int) then (y : Int) else (x : Int)) = mn := ⟨_, rfl⟩
           obtain ⟨mx, hmx⟩ : ∃ mx : Int, (if (y : Int) > (x : Int) then (y : Int) else (x : Int)) = mx := ⟨_, rfl⟩
           have bmn : -1000000 ≤ mn ∧ mn ≤ 1000000 := by rw [← hmn]; split <;> omega
           have bmx : -1000000 ≤ mx ∧ mx ≤ 1000000 := by rw [← hmx]; split <;> omega
           have hmin : ∀ w : World, Sem.run Tryz.prog (Builtin.min_ #[3, 3] 3 #[.int .i64 (x : Int), .int .i64 (y : Int)]) w = Result.ok (Value.int .i64 mn) w := fun w => by rw [run_min_int2, hmn]
           have hmax : ∀ w : World, Sem.run Tryz.prog (Builtin.max_ #[3, 3] 3 #[.int .i64 (x : Int), .int .i64 (y : Int)]) w = Result.ok (Value.int .i64 mx) w := fun w => by rw [run_max_int2, hmx]
           have hwk : (IntKind.i64.wrap 1).tmod 3 = 1 := by decide
           obtain ⟨wm, F4, hup, hT4, hF4⟩ := fault_store HF3.out bmn bmx
           have hx0 := HBX3.out.c 0 _ rfl; have hx1 := HBX3.out.c 1 _ rfl
           have hbx4 := HBX3.out.turned hT4 (by omega)
           have hbw4 : Below fb w7 wm := Below.turned HBW3.out hT4 (Nat.le_refl _)
           have hy0 := hbx4.c 0 _ rfl; have hy1 := hbx4.c 1 _ rfl
           have FIN := Lib.hid (And.intro hF4 (And.intro hbx4 hbw4))
           clear hmn hmx bmn bmx hT4 hF4 hbx4 hbw4
           go_wp2_with fail
           obtain ⟨SSs, hSSs⟩ : ∃ S : Array Bool → World → Prop, ∀ l w', S l w' ↔ ((w'.cell? ⟨tb, 0, none⟩ = some (.int .i64 (x : Int))) ∧ (w'.cell? ⟨tb, 1, none⟩ = some (.int .i64 (y : Int)))) := ⟨_, fun _ _ => Iff.rfl⟩
           refine wp_region_noPanic ?_
           refine wp_region_G SSs 21 #[false, false, false, false, false, false, false, false, false, false, false, false, false, false, false, false, false, false, false, false, false] (by kernel_rfl) (by kernel_rfl) (by kernel_rfl) ((hSSs _ _).2 ⟨hx0, hx1⟩) (fun hCl hHeld => ?_)
           generalize wr.drew = wd at *
           refine rG 0 ?_ ?_ ?_ ?_ ?_ ?_ hCl hHeld ?_;rotate_left 2
           ·simp only [gA,gZ]; exact rfl
           ·intro l w'; rw [hSSs, hSSs]
           ·rfl
           ·intro w' hA;clear hA;go_simp;try with_reducible rfl
           clear hCl hHeld
           intro hCl hHeld
           simp only [List.setIfInBounds_toArray, List.set_cons_zero] at hCl hHeld
           (try simp only [Act.put]);try simp only [sA,sZ,sS]
           refine rG 1 ?_ ?_ ?_ ?_ ?_ ?_ hCl hHeld ?_;rotate_left 2
           ·simp only [gA,gS,gZ]; exact rfl
           ·intro l w'; rw [hSSs, hSSs]
           ·rfl
           ·intro w' hA;clear hA;go_simp;try with_reducible rfl
           clear hCl hHeld
           intro hCl hHeld
           simp only [sA,sZ,sS] at hCl hHeld
           (try simp only [Act.put]);try simp only [sA,sZ,sS]
           refine rG 2 ?_ ?_ ?_ ?_ ?_ ?_ hCl hHeld ?_;rotate_left 2
           ·simp only [gA,gS,gZ]; exact rfl
           ·intro l w'; rw [hSSs, hSSs]
           ·rfl
           ·intro w' hA;clear hA;go_simp;try with_reducible rfl
           clear hCl hHeld
           intro hCl hHeld
           simp only [sA,sZ,sS] at hCl hHeld
           (try simp only [Act.put]);try simp only [sA,sZ,sS]
           refine rG 3 ?_ ?_ ?_ ?_ ?_ ?_ hCl hHeld ?_;rotate_left 2
           ·simp only [gA,gS,gZ]; exact rfl
           ·intro l w'; rw [hSSs, hSSs]
           ·rfl
           ·intro w' hA; obtain ⟨l, hl, hi, hSl⟩ := hA; have hSl := (hSSs _ _).1 hSl; obtain ⟨hz0, hz1⟩ := hSl; go_simp; try with_reducible rfl
           clear hCl hHeld
           intro hCl hHeld
           simp only [sA,sZ,sS] at hCl hHeld
           (try simp only [Act.put]);try simp only [sA,sZ,sS]
           refine rG 4 ?_ ?_ ?_ ?_ ?_ ?_ hCl hHeld ?_;rotate_left 2
           ·simp only [gA,gS,gZ]; exact rfl
           ·intro l w'; rw [hSSs, hSSs]
           ·rfl
           ·intro w' hA;clear hA;go_simp;try with_reducible rfl
           clear hCl hHeld
           intro hCl hHeld
           simp only [sA,sZ,sS] at hCl hHeld
           (try simp only [Act.put]);try simp only [sA,sZ,sS]
           refine rG 5 ?_ ?_ ?_ ?_ ?_ ?_ hCl hHeld ?_;rotate_left 2
           ·simp only [gA,gS,gZ]; exact rfl
           ·intro l w'; rw [hSSs, hSSs]
           ·rfl
           ·intro w' hA;clear hA;go_simp;try with_reducible rfl
           clear hCl hHeld
           intro hCl hHeld
           simp only [sA,sZ,sS] at hCl hHeld
           (try simp only [Act.put]);try simp only [sA,sZ,sS]
           refine rG 6 ?_ ?_ ?_ ?_ ?_ ?_ hCl hHeld ?_;rotate_left 2
           ·simp only [gA,gS,gZ]; exact rfl
           ·intro l w'; rw [hSSs, hSSs]
           ·rfl
           ·intro w' hA;clear hA;go_simp;try with_reducible rfl
           clear hCl hHeld
           intro hCl hHeld
           simp only [sA,sZ,sS] at hCl hHeld
           (try simp only [Act.put]);try simp only [sA,sZ,sS]
           refine rG 7 ?_ ?_ ?_ ?_ ?_ ?_ hCl hHeld ?_;rotate_left 2
           ·simp only [gA,gS,gZ]; exact rfl
           ·intro l w'; rw [hSSs, hSSs]
           ·rfl
           ·intro w' hA;clear hA;go_simp;try with_reducible rfl
           clear hCl hHeld
           intro hCl hHeld
           simp only [sA,sZ,sS] at hCl hHeld
           (try simp only [Act.put]);try simp only [sA,sZ,sS]
           refine rG 8 ?_ ?_ ?_ ?_ ?_ ?_ hCl hHeld ?_;rotate_left 2
           ·simp only [gA,gS,gZ]; exact rfl
           ·intro l w'; rw [hSSs, hSSs]
           ·rfl
           ·intro w' hA; obtain ⟨l, hl, hi, hSl⟩ := hA; have hSl := (hSSs _ _).1 hSl; obtain ⟨hz0, hz1⟩ := hSl; go_simp; try with_reducible rfl
           clear hCl hHeld
           intro hCl hHeld
           simp only [sA,sZ,sS] at hCl hHeld
           (try simp only [Act.put]);try simp only [sA,sZ,sS]
           refine rG 9 ?_ ?_ ?_ ?_ ?_ ?_ hCl hHeld ?_;rotate_left 2
           ·simp only [gA,gS,gZ]; exact rfl
           ·intro l w'; rw [hSSs, hSSs]
           ·rfl
           ·intro w' hA;clear hA;go_simp;try with_reducible rfl
           clear hCl hHeld
           intro hCl hHeld
           simp only [sA,sZ,sS] at hCl hHeld
           (try simp only [Act.put]);try simp only [sA,sZ,sS]
           refine rG 10 ?_ ?_ ?_ ?_ ?_ ?_ hCl hHeld ?_;rotate_left 2
           ·simp only [gA,gS,gZ]; exact rfl
           ·intro l w'; rw [hSSs, hSSs]
           ·rfl
           ·intro w' hA;clear hA;go_simp;try with_reducible rfl
           clear hCl hHeld
           intro hCl hHeld
           simp only [sA,sZ,sS] at hCl hHeld
           (try simp only [Act.put]);try simp only [sA,sZ,sS]
           refine rG 11 ?_ ?_ ?_ ?_ ?_ ?_ hCl hHeld ?_;rotate_left 2
           ·simp only [gA,gS,gZ]; exact rfl
           ·intro l w'; rw [hSSs, hSSs]
           ·rfl
           ·intro w' hA;clear hA;go_simp;try with_reducible rfl
           clear hCl hHeld
           intro hCl hHeld
           simp only [sA,sZ,sS] at hCl hHeld
           (try simp only [Act.put]);try simp only [sA,sZ,sS]
           refine rG 12 ?_ ?_ ?_ ?_ ?_ ?_ hCl hHeld ?_;rotate_left 2
           ·simp only [gA,gS,gZ]; exact rfl
           ·intro l w'; rw [hSSs, hSSs]
           ·rfl
           ·intro w' hA; obtain ⟨l, hl, hi, hSl⟩ := hA; have hSl := (hSSs _ _).1 hSl; obtain ⟨hz0, hz1⟩ := hSl; go_simp; try with_reducible rfl
           clear hCl hHeld
           intro hCl hHeld
           simp only [sA,sZ,sS] at hCl hHeld
           (try simp only [Act.put]);try simp only [sA,sZ,sS]
           refine rG 13 ?_ ?_ ?_ ?_ ?_ ?_ hCl hHeld ?_;rotate_left 2
           ·simp only [gA,gS,gZ]; exact rfl
           ·intro l w'; rw [hSSs, hSSs]
           ·rfl
           ·intro w' hA;clear hA;go_simp;try with_reducible rfl
           clear hCl hHeld
           intro hCl hHeld
           simp only [sA,sZ,sS] at hCl hHeld
           (try simp only [Act.put]);try simp only [sA,sZ,sS]
           refine rG 14 ?_ ?_ ?_ ?_ ?_ ?_ hCl hHeld ?_;rotate_left 2
           ·simp only [gA,gS,gZ]; exact rfl
           ·intro l w'; rw [hSSs, hSSs]
           ·rfl
           ·intro w' hA;clear hA;go_simp;try with_reducible rfl
           clear hCl hHeld
           intro hCl hHeld
           simp only [sA,sZ,sS] at hCl hHeld
           (try simp only [Act.put]);try simp only [sA,sZ,sS]
           refine rG 15 ?_ ?_ ?_ ?_ ?_ ?_ hCl hHeld ?_;rotate_left 2
           ·simp only [gA,gS,gZ]; exact rfl
           ·intro l w'; rw [hSSs, hSSs]
           ·rfl
           ·intro w' hA;clear hA;go_simp;try with_reducible rfl
           clear hCl hHeld
           intro hCl hHeld
           simp only [sA,sZ,sS] at hCl hHeld
           (try simp only [Act.put]);try simp only [sA,sZ,sS]
           refine rG 16 ?_ ?_ ?_ ?_ ?_ ?_ hCl hHeld ?_;rotate_left 2
           ·simp only [gA,gS,gZ]; exact rfl
           ·intro l w'; rw [hSSs, hSSs]
           ·rfl
           ·intro w' hA;clear hA;go_simp;try with_reducible rfl
           clear hCl hHeld
           intro hCl hHeld
           simp only [sA,sZ,sS] at hCl hHeld
           (try simp only [Act.put]);try simp only [sA,sZ,sS]
           refine rG 17 ?_ ?_ ?_ ?_ ?_ ?_ hCl hHeld ?_;rotate_left 2
           ·simp only [gA,gS,gZ]; exact rfl
           ·intro l w'; rw [hSSs, hSSs]
           ·rfl
           ·intro w' hA; obtain ⟨l, hl, hi, hSl⟩ := hA; have hSl := (hSSs _ _).1 hSl; obtain ⟨hz0, hz1⟩ := hSl; go_simp; try with_reducible rfl
           clear hCl hHeld
           intro hCl hHeld
           simp only [sA,sZ,sS] at hCl hHeld
           (try simp only [Act.put]);try simp only [sA,sZ,sS]
           refine rG 18 ?_ ?_ ?_ ?_ ?_ ?_ hCl hHeld ?_;rotate_left 2
           ·simp only [gA,gS,gZ]; exact rfl
           ·intro l w'; rw [hSSs, hSSs]
           ·rfl
           ·intro w' hA;clear hA;go_simp;try with_reducible rfl
           clear hCl hHeld
           intro hCl hHeld
           simp only [sA,sZ,sS] at hCl hHeld
           (try simp only [Act.put]);try simp only [sA,sZ,sS]
           refine rG 19 ?_ ?_ ?_ ?_ ?_ ?_ hCl hHeld ?_;rotate_left 2
           ·simp only [gA,gS,gZ]; exact rfl
           ·intro l w'; rw [hSSs, hSSs]
           ·rfl
           ·intro w' hA;clear hA;go_simp;try with_reducible rfl
           clear hCl hHeld
           intro hCl hHeld
           simp only [sA,sZ,sS] at hCl hHeld
           (try simp only [Act.put]);try simp only [sA,sZ,sS]
           clear hCl hHeld
           refine reg_callG 20 ?_ (by kernel_rfl) ?_ (fun K hK => ?_);rotate_left 1
           ·simp only [gA,gS,gZ]; exact rfl
           go_simp
           clear hx0 hx1 hup
           refine hK.out _ _ ((hSSs _ _).2 ⟨hy0, hy1⟩) ?_
           clear hK K
           (try simp only [Act.put]);try simp only [sA,sZ,sS]
           refine wpAnyG_done (by kernel_rfl) ?_ _
           refine NoPanic.normal ?_
           clear hSSs SSs
           go_wp2
           have hnn := HNN.out
           refine ⟨⟨_, _, _, _, _, _, _, _, _, _, _, _, _, _, _, _, _, _, _, _, _, _, _, _, _, _, _, _, _, _, _, _, _, _, ?_, rfl⟩, by simp [intOf]⟩
           exact ⟨0 + 1, by omega, by go_num, congrArg (Value.int .i64) (by omega), ⟨_, FIN.out.1⟩, FIN.out.2.1, FIN.out.2.2⟩
          ·obtain ⟨mn, hmn⟩ : ∃ mn : Int, (if (z : Int) < (y : Int) then (z : Int) else (y : Int)) = mn := ⟨_, rfl⟩
           obtain ⟨mx, hmx⟩ : ∃ mx : Int, (if (z : Int) > (y : Int) then (z : Int) else (y : Int)) = mx := ⟨_, rfl⟩
           have bmn : -1000000 ≤ mn ∧ mn ≤ 1000000 := by rw [← hmn]; split <;> omega
           have bmx : -1000000 ≤ mx ∧ mx ≤ 1000000 := by rw [← hmx]; split <;> omega
           have hmin : ∀ w : World, Sem.run Tryz.prog (Builtin.min_ #[3, 3] 3 #[.int .i64 (y : Int), .int .i64 (z : Int)]) w = Result.ok (Value.int .i64 mn) w := fun w => by rw [run_min_int2, hmn]
           have hmax : ∀ w : World, Sem.run Tryz.prog (Builtin.max_ #[3, 3] 3 #[.int .i64 (y : Int), .int .i64 (z : Int)]) w = Result.ok (Value.int .i64 mx) w := fun w => by rw [run_max_int2, hmx]
           have hwk : (IntKind.i64.wrap 2).tmod 3 = 2 := by decide
           obtain ⟨wm, F4, hup, hT4, hF4⟩ := fault_store HF3.out bmn bmx
           have hx0 := HBX3.out.c 1 _ rfl; have hx1 := HBX3.out.c 2 _ rfl
           have hbx4 := HBX3.out.turned hT4 (by omega)
           have hbw4 : Below fb w7 wm := Below.turned HBW3.out hT4 (Nat.le_refl _)
           have hy0 := hbx4.c 1 _ rfl; have hy1 := hbx4.c 2 _ rfl
           have FIN := Lib.hid (And.intro hF4 (And.intro hbx4 hbw4))
           clear hmn hmx bmn bmx hT4 hF4 hbx4 hbw4
           go_wp2_with fail
           obtain ⟨SSs, hSSs⟩ : ∃ S : Array Bool → World → Prop, ∀ l w', S l w' ↔ ((w'.cell? ⟨tb, 1, none⟩ = some (.int .i64 (y : Int))) ∧ (w'.cell? ⟨tb, 2, none⟩ = some (.int .i64 (z : Int)))) := ⟨_, fun _ _ => Iff.rfl⟩
           refine wp_region_noPanic ?_
           refine wp_region_G SSs 21 #[false, false, false, false, false, false, false, false, false, false, false, false, false, false, false, false, false, false, false, false, false] (by kernel_rfl) (by kernel_rfl) (by kernel_rfl) ((hSSs _ _).2 ⟨hx0, hx1⟩) (fun hCl hHeld => ?_)
           generalize wr.drew = wd at *
           refine rG 0 ?_ ?_ ?_ ?_ ?_ ?_ hCl hHeld ?_;rotate_left 2
           ·simp only [gA,gZ]; exact rfl
           ·intro l w'; rw [hSSs, hSSs]
           ·rfl
           ·intro w' hA;clear hA;go_simp;try with_reducible rfl
           clear hCl hHeld
           intro hCl hHeld
           simp only [List.setIfInBounds_toArray, List.set_cons_zero] at hCl hHeld
           (try simp only [Act.put]);try simp only [sA,sZ,sS]
           refine rG 1 ?_ ?_ ?_ ?_ ?_ ?_ hCl hHeld ?_;rotate_left 2
           ·simp only [gA,gS,gZ]; exact rfl
           ·intro l w'; rw [hSSs, hSSs]
           ·rfl
           ·intro w' hA;clear hA;go_simp;try with_reducible rfl
           clear hCl hHeld
           intro hCl hHeld
           simp only [sA,sZ,sS] at hCl hHeld
           (try simp only [Act.put]);try simp only [sA,sZ,sS]
           refine rG 2 ?_ ?_ ?_ ?_ ?_ ?_ hCl hHeld ?_;rotate_left 2
           ·simp only [gA,gS,gZ]; exact rfl
           ·intro l w'; rw [hSSs, hSSs]
           ·rfl
           ·intro w' hA;clear hA;go_simp;try with_reducible rfl
           clear hCl hHeld
           intro hCl hHeld
           simp only [sA,sZ,sS] at hCl hHeld
           (try simp only [Act.put]);try simp only [sA,sZ,sS]
           refine rG 3 ?_ ?_ ?_ ?_ ?_ ?_ hCl hHeld ?_;rotate_left 2
           ·simp only [gA,gS,gZ]; exact rfl
           ·intro l w'; rw [hSSs, hSSs]
           ·rfl
           ·intro w' hA; obtain ⟨l, hl, hi, hSl⟩ := hA; have hSl := (hSSs _ _).1 hSl; obtain ⟨hz0, hz1⟩ := hSl; go_simp; try with_reducible rfl
           clear hCl hHeld
           intro hCl hHeld
           simp only [sA,sZ,sS] at hCl hHeld
           (try simp only [Act.put]);try simp only [sA,sZ,sS]
           refine rG 4 ?_ ?_ ?_ ?_ ?_ ?_ hCl hHeld ?_;rotate_left 2
           ·simp only [gA,gS,gZ]; exact rfl
           ·intro l w'; rw [hSSs, hSSs]
           ·rfl
           ·intro w' hA;clear hA;go_simp;try with_reducible rfl
           clear hCl hHeld
           intro hCl hHeld
           simp only [sA,sZ,sS] at hCl hHeld
           (try simp only [Act.put]);try simp only [sA,sZ,sS]
           refine rG 5 ?_ ?_ ?_ ?_ ?_ ?_ hCl hHeld ?_;rotate_left 2
           ·simp only [gA,gS,gZ]; exact rfl
           ·intro l w'; rw [hSSs, hSSs]
           ·rfl
           ·intro w' hA;clear hA;go_simp;try with_reducible rfl
           clear hCl hHeld
           intro hCl hHeld
           simp only [sA,sZ,sS] at hCl hHeld
           (try simp only [Act.put]);try simp only [sA,sZ,sS]
           refine rG 6 ?_ ?_ ?_ ?_ ?_ ?_ hCl hHeld ?_;rotate_left 2
           ·simp only [gA,gS,gZ]; exact rfl
           ·intro l w'; rw [hSSs, hSSs]
           ·rfl
           ·intro w' hA;clear hA;go_simp;try with_reducible rfl
           clear hCl hHeld
           intro hCl hHeld
           simp only [sA,sZ,sS] at hCl hHeld
           (try simp only [Act.put]);try simp only [sA,sZ,sS]
           refine rG 7 ?_ ?_ ?_ ?_ ?_ ?_ hCl hHeld ?_;rotate_left 2
           ·simp only [gA,gS,gZ]; exact rfl
           ·intro l w'; rw [hSSs, hSSs]
           ·rfl
           ·intro w' hA;clear hA;go_simp;try with_reducible rfl
           clear hCl hHeld
           intro hCl hHeld
           simp only [sA,sZ,sS] at hCl hHeld
           (try simp only [Act.put]);try simp only [sA,sZ,sS]
           refine rG 8 ?_ ?_ ?_ ?_ ?_ ?_ hCl hHeld ?_;rotate_left 2
           ·simp only [gA,gS,gZ]; exact rfl
           ·intro l w'; rw [hSSs, hSSs]
           ·rfl
           ·intro w' hA; obtain ⟨l, hl, hi, hSl⟩ := hA; have hSl := (hSSs _ _).1 hSl; obtain ⟨hz0, hz1⟩ := hSl; go_simp; try with_reducible rfl
           clear hCl hHeld
           intro hCl hHeld
           simp only [sA,sZ,sS] at hCl hHeld
           (try simp only [Act.put]);try simp only [sA,sZ,sS]
           refine rG 9 ?_ ?_ ?_ ?_ ?_ ?_ hCl hHeld ?_;rotate_left 2
           ·simp only [gA,gS,gZ]; exact rfl
           ·intro l w'; rw [hSSs, hSSs]
           ·rfl
           ·intro w' hA;clear hA;go_simp;try with_reducible rfl
           clear hCl hHeld
           intro hCl hHeld
           simp only [sA,sZ,sS] at hCl hHeld
           (try simp only [Act.put]);try simp only [sA,sZ,sS]
           refine rG 10 ?_ ?_ ?_ ?_ ?_ ?_ hCl hHeld ?_;rotate_left 2
           ·simp only [gA,gS,gZ]; exact rfl
           ·intro l w'; rw [hSSs, hSSs]
           ·rfl
           ·intro w' hA;clear hA;go_simp;try with_reducible rfl
           clear hCl hHeld
           intro hCl hHeld
           simp only [sA,sZ,sS] at hCl hHeld
           (try simp only [Act.put]);try simp only [sA,sZ,sS]
           refine rG 11 ?_ ?_ ?_ ?_ ?_ ?_ hCl hHeld ?_;rotate_left 2
           ·simp only [gA,gS,gZ]; exact rfl
           ·intro l w'; rw [hSSs, hSSs]
           ·rfl
           ·intro w' hA;clear hA;go_simp;try with_reducible rfl
           clear hCl hHeld
           intro hCl hHeld
           simp only [sA,sZ,sS] at hCl hHeld
           (try simp only [Act.put]);try simp only [sA,sZ,sS]
           refine rG 12 ?_ ?_ ?_ ?_ ?_ ?_ hCl hHeld ?_;rotate_left 2
           ·simp only [gA,gS,gZ]; exact rfl
           ·intro l w'; rw [hSSs, hSSs]
           ·rfl
           ·intro w' hA; obtain ⟨l, hl, hi, hSl⟩ := hA; have hSl := (hSSs _ _).1 hSl; obtain ⟨hz0, hz1⟩ := hSl; go_simp; try with_reducible rfl
           clear hCl hHeld
           intro hCl hHeld
           simp only [sA,sZ,sS] at hCl hHeld
           (try simp only [Act.put]);try simp only [sA,sZ,sS]
           refine rG 13 ?_ ?_ ?_ ?_ ?_ ?_ hCl hHeld ?_;rotate_left 2
           ·simp only [gA,gS,gZ]; exact rfl
           ·intro l w'; rw [hSSs, hSSs]
           ·rfl
           ·intro w' hA;clear hA;go_simp;try with_reducible rfl
           clear hCl hHeld
           intro hCl hHeld
           simp only [sA,sZ,sS] at hCl hHeld
           (try simp only [Act.put]);try simp only [sA,sZ,sS]
           refine rG 14 ?_ ?_ ?_ ?_ ?_ ?_ hCl hHeld ?_;rotate_left 2
           ·simp only [gA,gS,gZ]; exact rfl
           ·intro l w'; rw [hSSs, hSSs]
           ·rfl
           ·intro w' hA;clear hA;go_simp;try with_reducible rfl
           clear hCl hHeld
           intro hCl hHeld
           simp only [sA,sZ,sS] at hCl hHeld
           (try simp only [Act.put]);try simp only [sA,sZ,sS]
           refine rG 15 ?_ ?_ ?_ ?_ ?_ ?_ hCl hHeld ?_;rotate_left 2
           ·simp only [gA,gS,gZ]; exact rfl
           ·intro l w'; rw [hSSs, hSSs]
           ·rfl
           ·intro w' hA;clear hA;go_simp;try with_reducible rfl
           clear hCl hHeld
           intro hCl hHeld
           simp only [sA,sZ,sS] at hCl hHeld
           (try simp only [Act.put]);try simp only [sA,sZ,sS]
           refine rG 16 ?_ ?_ ?_ ?_ ?_ ?_ hCl hHeld ?_;rotate_left 2
           ·simp only [gA,gS,gZ]; exact rfl
           ·intro l w'; rw [hSSs, hSSs]
           ·rfl
           ·intro w' hA;clear hA;go_simp;try with_reducible rfl
           clear hCl hHeld
           intro hCl hHeld
           simp only [sA,sZ,sS] at hCl hHeld
           (try simp only [Act.put]);try simp only [sA,sZ,sS]
           refine rG 17 ?_ ?_ ?_ ?_ ?_ ?_ hCl hHeld ?_;rotate_left 2
           ·simp only [gA,gS,gZ]; exact rfl
           ·intro l w'; rw [hSSs, hSSs]
           ·rfl
           ·intro w' hA; obtain ⟨l, hl, hi, hSl⟩ := hA; have hSl := (hSSs _ _).1 hSl; obtain ⟨hz0, hz1⟩ := hSl; go_simp; try with_reducible rfl
           clear hCl hHeld
           intro hCl hHeld
           simp only [sA,sZ,sS] at hCl hHeld
           (try simp only [Act.put]);try simp only [sA,sZ,sS]
           refine rG 18 ?_ ?_ ?_ ?_ ?_ ?_ hCl hHeld ?_;rotate_left 2
           ·simp only [gA,gS,gZ]; exact rfl
           ·intro l w'; rw [hSSs, hSSs]
           ·rfl
           ·intro w' hA;clear hA;go_simp;try with_reducible rfl
           clear hCl hHeld
           intro hCl hHeld
           simp only [sA,sZ,sS] at hCl hHeld
           (try simp only [Act.put]);try simp only [sA,sZ,sS]
           refine rG 19 ?_ ?_ ?_ ?_ ?_ ?_ hCl hHeld ?_;rotate_left 2
           ·simp only [gA,gS,gZ]; exact rfl
           ·intro l w'; rw [hSSs, hSSs]
           ·rfl
           ·intro w' hA;clear hA;go_simp;try with_reducible rfl
           clear hCl hHeld
           intro hCl hHeld
           simp only [sA,sZ,sS] at hCl hHeld
           (try simp only [Act.put]);try simp only [sA,sZ,sS]
           clear hCl hHeld
           refine reg_callG 20 ?_ (by kernel_rfl) ?_ (fun K hK => ?_);rotate_left 1
           ·simp only [gA,gS,gZ]; exact rfl
           go_simp
           clear hx0 hx1 hup
           refine hK.out _ _ ((hSSs _ _).2 ⟨hy0, hy1⟩) ?_
           clear hK K
           (try simp only [Act.put]);try simp only [sA,sZ,sS]
           refine wpAnyG_done (by kernel_rfl) ?_ _
           refine NoPanic.normal ?_
           clear hSSs SSs
           go_wp2
           have hnn := HNN.out
           refine ⟨⟨_, _, _, _, _, _, _, _, _, _, _, _, _, _, _, _, _, _, _, _, _, _, _, _, _, _, _, _, _, _, _, _, _, _, ?_, rfl⟩, by simp [intOf]⟩
           exact ⟨1 + 1, by omega, by go_num, congrArg (Value.int .i64) (by omega), ⟨_, FIN.out.1⟩, FIN.out.2.1, FIN.out.2.2⟩
          ·obtain ⟨mn, hmn⟩ : ∃ mn : Int, (if (x : Int) < (z : Int) then (x : Int) else (z : Int)) = mn := ⟨_, rfl⟩
           obtain ⟨mx, hmx⟩ : ∃ mx : Int, (if (x : Int) > (z : Int) then (x : Int) else (z : Int)) = mx := ⟨_, rfl⟩
           have bmn : -1000000 ≤ mn ∧ mn ≤ 1000000 := by rw [← hmn]; split <;> omega
           have bmx : -1000000 ≤ mx ∧ mx ≤ 1000000 := by rw [← hmx]; split <;> omega
           have hmin : ∀ w : World, Sem.run Tryz.prog (Builtin.min_ #[3, 3] 3 #[.int .i64 (z : Int), .int .i64 (x : Int)]) w = Result.ok (Value.int .i64 mn) w := fun w => by rw [run_min_int2, hmn]
           have hmax : ∀ w : World, Sem.run Tryz.prog (Builtin.max_ #[3, 3] 3 #[.int .i64 (z : Int), .int .i64 (x : Int)]) w = Result.ok (Value.int .i64 mx) w := fun w => by rw [run_max_int2, hmx]
           have hwk : (IntKind.i64.wrap 3).tmod 3 = 0 := by decide
           obtain ⟨wm, F4, hup, hT4, hF4⟩ := fault_store HF3.out bmn bmx
           have hx0 := HBX3.out.c 2 _ rfl; have hx1 := HBX3.out.c 0 _ rfl
           have hbx4 := HBX3.out.turned hT4 (by omega)
           have hbw4 : Below fb w7 wm := Below.turned HBW3.out hT4 (Nat.le_refl _)
           have hy0 := hbx4.c 2 _ rfl; have hy1 := hbx4.c 0 _ rfl
           have FIN := Lib.hid (And.intro hF4 (And.intro hbx4 hbw4))
           clear hmn hmx bmn bmx hT4 hF4 hbx4 hbw4
           go_wp2_with fail
           obtain ⟨SSs, hSSs⟩ : ∃ S : Array Bool → World → Prop, ∀ l w', S l w' ↔ ((w'.cell? ⟨tb, 2, none⟩ = some (.int .i64 (z : Int))) ∧ (w'.cell? ⟨tb, 0, none⟩ = some (.int .i64 (x : Int)))) := ⟨_, fun _ _ => Iff.rfl⟩
           refine wp_region_noPanic ?_
           refine wp_region_G SSs 21 #[false, false, false, false, false, false, false, false, false, false, false, false, false, false, false, false, false, false, false, false, false] (by kernel_rfl) (by kernel_rfl) (by kernel_rfl) ((hSSs _ _).2 ⟨hx0, hx1⟩) (fun hCl hHeld => ?_)
           generalize wr.drew = wd at *
           refine rG 0 ?_ ?_ ?_ ?_ ?_ ?_ hCl hHeld ?_;rotate_left 2
           ·simp only [gA,gZ]; exact rfl
           ·intro l w'; rw [hSSs, hSSs]
           ·rfl
           ·intro w' hA;clear hA;go_simp;try with_reducible rfl
           clear hCl hHeld
           intro hCl hHeld
           simp only [List.setIfInBounds_toArray, List.set_cons_zero] at hCl hHeld
           (try simp only [Act.put]);try simp only [sA,sZ,sS]
           refine rG 1 ?_ ?_ ?_ ?_ ?_ ?_ hCl hHeld ?_;rotate_left 2
           ·simp only [gA,gS,gZ]; exact rfl
           ·intro l w'; rw [hSSs, hSSs]
           ·rfl
           ·intro w' hA;clear hA;go_simp;try with_reducible rfl
           clear hCl hHeld
           intro hCl hHeld
           simp only [sA,sZ,sS] at hCl hHeld
           (try simp only [Act.put]);try simp only [sA,sZ,sS]
           refine rG 2 ?_ ?_ ?_ ?_ ?_ ?_ hCl hHeld ?_;rotate_left 2
           ·simp only [gA,gS,gZ]; exact rfl
           ·intro l w'; rw [hSSs, hSSs]
           ·rfl
           ·intro w' hA;clear hA;go_simp;try with_reducible rfl
           clear hCl hHeld
           intro hCl hHeld
           simp only [sA,sZ,sS] at hCl hHeld
           (try simp only [Act.put]);try simp only [sA,sZ,sS]
           refine rG 3 ?_ ?_ ?_ ?_ ?_ ?_ hCl hHeld ?_;rotate_left 2
           ·simp only [gA,gS,gZ]; exact rfl
           ·intro l w'; rw [hSSs, hSSs]
           ·rfl
           ·intro w' hA; obtain ⟨l, hl, hi, hSl⟩ := hA; have hSl := (hSSs _ _).1 hSl; obtain ⟨hz0, hz1⟩ := hSl; go_simp; try with_reducible rfl
           clear hCl hHeld
           intro hCl hHeld
           simp only [sA,sZ,sS] at hCl hHeld
           (try simp only [Act.put]);try simp only [sA,sZ,sS]
           refine rG 4 ?_ ?_ ?_ ?_ ?_ ?_ hCl hHeld ?_;rotate_left 2
           ·simp only [gA,gS,gZ]; exact rfl
           ·intro l w'; rw [hSSs, hSSs]
           ·rfl
           ·intro w' hA;clear hA;go_simp;try with_reducible rfl
           clear hCl hHeld
           intro hCl hHeld
           simp only [sA,sZ,sS] at hCl hHeld
           (try simp only [Act.put]);try simp only [sA,sZ,sS]
           refine rG 5 ?_ ?_ ?_ ?_ ?_ ?_ hCl hHeld ?_;rotate_left 2
           ·simp only [gA,gS,gZ]; exact rfl
           ·intro l w'; rw [hSSs, hSSs]
           ·rfl
           ·intro w' hA;clear hA;go_simp;try with_reducible rfl
           clear hCl hHeld
           intro hCl hHeld
           simp only [sA,sZ,sS] at hCl hHeld
           (try simp only [Act.put]);try simp only [sA,sZ,sS]
           refine rG 6 ?_ ?_ ?_ ?_ ?_ ?_ hCl hHeld ?_;rotate_left 2
           ·simp only [gA,gS,gZ]; exact rfl
           ·intro l w'; rw [hSSs, hSSs]
           ·rfl
           ·intro w' hA;clear hA;go_simp;try with_reducible rfl
           clear hCl hHeld
           intro hCl hHeld
           simp only [sA,sZ,sS] at hCl hHeld
           (try simp only [Act.put]);try simp only [sA,sZ,sS]
           refine rG 7 ?_ ?_ ?_ ?_ ?_ ?_ hCl hHeld ?_;rotate_left 2
           ·simp only [gA,gS,gZ]; exact rfl
           ·intro l w'; rw [hSSs, hSSs]
           ·rfl
           ·intro w' hA;clear hA;go_simp;try with_reducible rfl
           clear hCl hHeld
           intro hCl hHeld
           simp only [sA,sZ,sS] at hCl hHeld
           (try simp only [Act.put]);try simp only [sA,sZ,sS]
           refine rG 8 ?_ ?_ ?_ ?_ ?_ ?_ hCl hHeld ?_;rotate_left 2
           ·simp only [gA,gS,gZ]; exact rfl
           ·intro l w'; rw [hSSs, hSSs]
           ·rfl
           ·intro w' hA; obtain ⟨l, hl, hi, hSl⟩ := hA; have hSl := (hSSs _ _).1 hSl; obtain ⟨hz0, hz1⟩ := hSl; go_simp; try with_reducible rfl
           clear hCl hHeld
           intro hCl hHeld
           simp only [sA,sZ,sS] at hCl hHeld
           (try simp only [Act.put]);try simp only [sA,sZ,sS]
           refine rG 9 ?_ ?_ ?_ ?_ ?_ ?_ hCl hHeld ?_;rotate_left 2
           ·simp only [gA,gS,gZ]; exact rfl
           ·intro l w'; rw [hSSs, hSSs]
           ·rfl
           ·intro w' hA;clear hA;go_simp;try with_reducible rfl
           clear hCl hHeld
           intro hCl hHeld
           simp only [sA,sZ,sS] at hCl hHeld
           (try simp only [Act.put]);try simp only [sA,sZ,sS]
           refine rG 10 ?_ ?_ ?_ ?_ ?_ ?_ hCl hHeld ?_;rotate_left 2
           ·simp only [gA,gS,gZ]; exact rfl
           ·intro l w'; rw [hSSs, hSSs]
           ·rfl
           ·intro w' hA;clear hA;go_simp;try with_reducible rfl
           clear hCl hHeld
           intro hCl hHeld
           simp only [sA,sZ,sS] at hCl hHeld
           (try simp only [Act.put]);try simp only [sA,sZ,sS]
           refine rG 11 ?_ ?_ ?_ ?_ ?_ ?_ hCl hHeld ?_;rotate_left 2
           ·simp only [gA,gS,gZ]; exact rfl
           ·intro l w'; rw [hSSs, hSSs]
           ·rfl
           ·intro w' hA;clear hA;go_simp;try with_reducible rfl
           clear hCl hHeld
           intro hCl hHeld
           simp only [sA,sZ,sS] at hCl hHeld
           (try simp only [Act.put]);try simp only [sA,sZ,sS]
           refine rG 12 ?_ ?_ ?_ ?_ ?_ ?_ hCl hHeld ?_;rotate_left 2
           ·simp only [gA,gS,gZ]; exact rfl
           ·intro l w'; rw [hSSs, hSSs]
           ·rfl
           ·intro w' hA; obtain ⟨l, hl, hi, hSl⟩ := hA; have hSl := (hSSs _ _).1 hSl; obtain ⟨hz0, hz1⟩ := hSl; go_simp; try with_reducible rfl
           clear hCl hHeld
           intro hCl hHeld
           simp only [sA,sZ,sS] at hCl hHeld
           (try simp only [Act.put]);try simp only [sA,sZ,sS]
           refine rG 13 ?_ ?_ ?_ ?_ ?_ ?_ hCl hHeld ?_;rotate_left 2
           ·simp only [gA,gS,gZ]; exact rfl
           ·intro l w'; rw [hSSs, hSSs]
           ·rfl
           ·intro w' hA;clear hA;go_simp;try with_reducible rfl
           clear hCl hHeld
           intro hCl hHeld
           simp only [sA,sZ,sS] at hCl hHeld
           (try simp only [Act.put]);try simp only [sA,sZ,sS]
           refine rG 14 ?_ ?_ ?_ ?_ ?_ ?_ hCl hHeld ?_;rotate_left 2
           ·simp only [gA,gS,gZ]; exact rfl
           ·intro l w'; rw [hSSs, hSSs]
           ·rfl
           ·intro w' hA;clear hA;go_simp;try with_reducible rfl
           clear hCl hHeld
           intro hCl hHeld
           simp only [sA,sZ,sS] at hCl hHeld
           (try simp only [Act.put]);try simp only [sA,sZ,sS]
           refine rG 15 ?_ ?_ ?_ ?_ ?_ ?_ hCl hHeld ?_;rotate_left 2
           ·simp only [gA,gS,gZ]; exact rfl
           ·intro l w'; rw [hSSs, hSSs]
           ·rfl
           ·intro w' hA;clear hA;go_simp;try with_reducible rfl
           clear hCl hHeld
           intro hCl hHeld
           simp only [sA,sZ,sS] at hCl hHeld
           (try simp only [Act.put]);try simp only [sA,sZ,sS]
           refine rG 16 ?_ ?_ ?_ ?_ ?_ ?_ hCl hHeld ?_;rotate_left 2
           ·simp only [gA,gS,gZ]; exact rfl
           ·intro l w'; rw [hSSs, hSSs]
           ·rfl
           ·intro w' hA;clear hA;go_simp;try with_reducible rfl
           clear hCl hHeld
           intro hCl hHeld
           simp only [sA,sZ,sS] at hCl hHeld
           (try simp only [Act.put]);try simp only [sA,sZ,sS]
           refine rG 17 ?_ ?_ ?_ ?_ ?_ ?_ hCl hHeld ?_;rotate_left 2
           ·simp only [gA,gS,gZ]; exact rfl
           ·intro l w'; rw [hSSs, hSSs]
           ·rfl
           ·intro w' hA; obtain ⟨l, hl, hi, hSl⟩ := hA; have hSl := (hSSs _ _).1 hSl; obtain ⟨hz0, hz1⟩ := hSl; go_simp; try with_reducible rfl
           clear hCl hHeld
           intro hCl hHeld
           simp only [sA,sZ,sS] at hCl hHeld
           (try simp only [Act.put]);try simp only [sA,sZ,sS]
           refine rG 18 ?_ ?_ ?_ ?_ ?_ ?_ hCl hHeld ?_;rotate_left 2
           ·simp only [gA,gS,gZ]; exact rfl
           ·intro l w'; rw [hSSs, hSSs]
           ·rfl
           ·intro w' hA;clear hA;go_simp;try with_reducible rfl
           clear hCl hHeld
           intro hCl hHeld
           simp only [sA,sZ,sS] at hCl hHeld
           (try simp only [Act.put]);try simp only [sA,sZ,sS]
           refine rG 19 ?_ ?_ ?_ ?_ ?_ ?_ hCl hHeld ?_;rotate_left 2
           ·simp only [gA,gS,gZ]; exact rfl
           ·intro l w'; rw [hSSs, hSSs]
           ·rfl
           ·intro w' hA;clear hA;go_simp;try with_reducible rfl
           clear hCl hHeld
           intro hCl hHeld
           simp only [sA,sZ,sS] at hCl hHeld
           (try simp only [Act.put]);try simp only [sA,sZ,sS]
           clear hCl hHeld
           refine reg_callG 20 ?_ (by kernel_rfl) ?_ (fun K hK => ?_);rotate_left 1
           ·simp only [gA,gS,gZ]; exact rfl
           go_simp
           clear hx0 hx1 hup
           refine hK.out _ _ ((hSSs _ _).2 ⟨hy0, hy1⟩) ?_
           clear hK K
           (try simp only [Act.put]);try simp only [sA,sZ,sS]
           refine wpAnyG_done (by kernel_rfl) ?_ _
           refine NoPanic.normal ?_
           clear hSSs SSs
           go_wp2
           have hnn := HNN.out
           refine ⟨⟨_, _, _, _, _, _, _, _, _, _, _, _, _, _, _, _, _, _, _, _, _, _, _, _, _, _, _, _, _, _, _, _, _, _, ?_, rfl⟩, by simp [intOf]⟩
           exact ⟨2 + 1, by omega, by go_num, congrArg (Value.int .i64) (by omega), ⟨_, FIN.out.1⟩, FIN.out.2.1, FIN.out.2.2⟩
        ·obtain rfl : i = 3 := by omega
         have FIN := Lib.hid (And.intro hF2 hbw)
         clear hF2 hbw hbx
         go_wp2
         exact ⟨⟨j + 1, by omega, by go_num, congrArg (Value.int .i64) (by omega), ⟨_, FIN.out.1⟩, FIN.out.2⟩, by simp [intOf]; omega⟩
      ·obtain rfl : j = 4 := by omega
       have hgl := HM.out.len
       obtain ⟨⟨ta, tb, tc⟩, h0⟩ : ∃ v, (gridT 1 2 bn)[0]? = some v := ⟨_, List.getElem?_eq_getElem (by omega)⟩
       have hz := HM.out.one _ (List.mem_of_getElem? h0)
       simp only [] at hz
       have hb7 : Below w7.heap.size w7 wr := by rw [HFB.out]; exact hbw
       have hpr : RowN wr (w.heap.size + 1) 24 2 (.slice (some ⟨gp, 0, none⟩) 6 gpc) 6 (ptsCells (gridP 1 2)) := (HROW.out.below HBT.out).below hb7
       have htr := HTR.out.below hb7
       have hbu := Build_any F (gridT 1 2 bn) ta tb tc fb gt 4 gtc gp 6 gpc (gridP 1 2) wr OK.out.good h0 hz (by omega) (by omega) OK.out.pts htr hF rfl (by omega) (by omega) HPS.out hpr.ptsC HM.out.some_ (by have := HM.out.few; omega) HM.out.ends
       have HBU := Lib.hid hbu; have HTRR := Lib.hid htr
       have HBWR := Lib.hid (HBW.out.trans ((HBT.out.trans (hb7.mono HBT.out.size)).mono HBW.out.size))
       have hgt := HGTL.out.1; have hsz5 := HBW.out.size
       clear hbu htr hpr hb7 hF hbw hz h0 hgl
       go_wp2_with fail
       refine HBU.out.mono ?_
       rintro e w9 ⟨mb, rfl, hbe, hb9⟩
       have hbs := HBWR.out.size
       have FIN := Lib.hid (And.intro (hbe.low hbs) (And.intro (HTRR.out.below hb9) (HBWR.out.trans (hb9.mono hbs))))
       clear hbe hb9
       go_wp2
       go_ret2
       exact ⟨mb, gt, gtc, F, rfl, FIN.out.1, FIN.out.2.1, by omega, FIN.out.2.2⟩
end Go.Proofs.YtnabdopnlinklaaGreat
/- The statements' Grid, 2 by 1. -/
namespace Go.Proofs.YtnabdopnlinklaaGreat
open Go.RowKit Go.MagM
set_option maxRecDepth 100000 in
set_option maxHeartbeats 16000000 in
theorem Grid21_any (w0 h0 b f : Int) (bn : Nat) (hbn : bn < 16) (e1 : bits .and .i64 w0 1 = 1) (e2 : bits .and .i64 h0 1 = 0) (hbit : ∀ k : Nat, k < 4 → bitB b k = bn.testBit k) (w : World) :
  Calls Tryz.prog 34 #[.int .i64 w0, .int .i64 h0, .int .u32 b, .int .u32 f] w fun e w' => ∃ (mb g c : Nat) (F : Int → Int → Bool), e = .returned (.tuple #[.pointer (some ⟨mb, 0, none⟩), .slice (some ⟨g, 0, none⟩) 4 c]) ∧ BuildEnd 24 37 F w.heap.size (gridP 2 1) (gridT 2 1 bn) mb w' ∧ TrIn w' g ((gridT 2 1 bn).map realV) ∧ w.heap.size ≤ g ∧ Below w.heap.size w w' := by
 have ok := grid_ok (w := 2) (h := 1) (by omega) (by omega) hbn
 have hm := grid_has (w := 2) (h := 1) (by omega) (by omega) hbn
 have hps : InPs (gridP 2 1) := grid_inPs (by omega) (by omega)
 have OK := Lib.hid ok; have HM := Lib.hid hm; have HPS := Lib.hid hps; have HBIT := Lib.hid hbit
 clear ok hm hps hbit
 obtain ⟨i0, hi, hz0, hz1, hz2⟩ := info_parts infoPt
 have HI := Lib.hid hi; have HZ0 := Lib.hid hz0; have HZ1 := Lib.hid hz1; have HZ2 := Lib.hid hz2
 obtain ⟨j0, hj, hy0, hy1, hy2⟩ := info_parts infoE3
 have HJ := Lib.hid hj; have HY0 := Lib.hid hy0; have HY1 := Lib.hid hy1; have HY2 := Lib.hid hy2
 clear hi hz0 hz1 hz2 hj hy0 hy1 hy2
 obtain ⟨w1, hw1, pw0, hB1, hs1⟩ := new_box w _ rfl [.int .i64 w0] 3
 have sc := pw0.c 0 _ rfl; have sf := pw0.f 0 _ rfl
 obtain ⟨w2, hw2⟩ : ∃ w2, w1.setCell ⟨w.heap.size, 0, none⟩ (.int .i64 2) = w2 := ⟨_, rfl⟩
 have pw2 : Box w2 w.heap.size [.int .i64 2] := by rw [← hw2]; exact pw0.set 0 (.int .i64 2)
 have hB2 : Below w.heap.size w w2 := by rw [← hw2]; exact hB1.setCell (p := ⟨w.heap.size, 0, none⟩) (by simp only []; omega) _
 have hz2 : w.heap.size + 1 ≤ w2.heap.size := by have := pw2.lt; omega
 have PW2 := Lib.hid pw2; have HB2 := Lib.hid hB2; have HZS := Lib.hid hz2
 clear pw0 hB1 hs1 pw2 hB2 hz2
 go_enter Tryz.func34, Tryz.ntmps34
 go_wp2
 clear sc sf hw1 hw2
 go_loopw [10, 11, 12, 35] (fun pv _ _ iv wr => ∃ (y : Nat) (vv : Value), y ≤ 2 ∧ iv = .int .i64 (y : Int) ∧ vv = pv ∧ RowN wr (w.heap.size + 1) 24 2 vv (y * 3) (ptsCells ((gridP 2 1).take (y * 3))) ∧ Box wr w.heap.size [.int .i64 2] ∧ Below w.heap.size w wr ∧ w.heap.size + 1 ≤ wr.heap.size) (fun _ _ _ iv _ => 2 - (intOf iv).toNat)
 case atStart => exact ⟨0, _, Nat.zero_le _, rfl, rfl, RowN.nil _ _ _ _, PW2.out, HB2.out, HZS.out⟩
 case round =>
  obtain ⟨y, vv, hy, rfl, rfl, hrow, hbx, hbw, hsz⟩ := hrel
  by_cases hlt : y < 2
  ·have hyd : decide ((y : Int) < 2) = true := decide_eq_true (by omega)
   have cw := hbx.c 0 _ rfl
   have HROW := Lib.hid hrow; have HBX := Lib.hid hbx; have HBW := Lib.hid hbw; have HSZ := Lib.hid hsz
   clear hrow hbx hbw hsz
   go_wp2
   clear cw
   go_loopw [10, 12, 40] (fun pv _ iv wr => ∃ (x : Nat) (vv : Value), x ≤ 3 ∧ iv = .int .i64 (x : Int) ∧ vv = pv ∧ RowN wr (w.heap.size + 1) 24 2 vv (y * 3 + x) (ptsCells ((gridP 2 1).take (y * 3 + x))) ∧ Box wr w.heap.size [.int .i64 2] ∧ Below w.heap.size w wr ∧ w.heap.size + 1 ≤ wr.heap.size) (fun _ _ iv _ => 3 - (intOf iv).toNat)
   case atStart => exact ⟨0, _, Nat.zero_le _, rfl, rfl, HROW.out, HBX.out, HBW.out, HSZ.out⟩
   case round =>
    obtain ⟨x, vv, hx, rfl, rfl, hrow, hbx, hbw, hsz⟩ := hrel
    by_cases hlx : x < 3
    ·have hel := gridP_at (w := 2) (h := 1) (by omega) (by omega) (x := x) (y := y) (by omega) (by omega)
     have hx2 : IntKind.i64.wrap (2 * (x : Int)) = 2 * (x : Int) := by rw [IntKind.wrap_i64]; omega
     have hy2 : IntKind.i64.wrap (2 * (y : Int)) = 2 * (y : Int) := by rw [IntKind.wrap_i64]; omega
     obtain ⟨w3, hw3, hpn, hb3, hs3⟩ := new_box wr _ rfl [.int .i64 (2 * (x : Int)), .int .i64 (2 * (y : Int))] 24
     have hrow3 := hrow.below hb3
     have hbx3 := hbx.below hb3
     have hbw3 := hbw.trans (hb3.mono hbw.size)
     obtain ⟨v1, w4, hrun, rown, hgrow, hkept⟩ := run_append_row (P := Tryz.prog) w3 (w.heap.size + 1) 38 38 24 i0 (.agg #[.int .i64 0, .int .i64 0]) 2 16 (by kernel_rfl) HI.out HZ0.out HZ1.out HZ2.out rfl (noWordI2 _ _) _ (y * 3 + x) _ hrow3 ⟨wr.heap.size, 0, none⟩ 1 1 [.int .i64 (2 * (x : Int)), .int .i64 (2 * (y : Int))] (by omega) rfl hpn.news (by intro u hu; simp at hu; rcases hu with rfl | rfl <;> rfl) (noWordI2 _ _) (by unfold maxLen; omega) (by omega) (by omega)
     have hne : ∀ k, vv.ownBlock = some k → w.heap.size + 1 ≤ k := fun k hk => (hrow3.lt k hk).1
     have hbx4 := hbx3.grown hgrow (fun e => by have := hne _ e; omega) hbx3.lt
     have hbw4 : Below w.heap.size w w4 := hbw3.grown hgrow (by omega) (fun k hk => by have := hne k hk; omega)
     have htk : ptsCells ((gridP 2 1).take (y * 3 + x)) ++ [.int .i64 (2 * (x : Int)), .int .i64 (2 * (y : Int))] = ptsCells ((gridP 2 1).take (y * 3 + (x + 1))) := by
      rw [← Nat.add_assoc, List.take_add_one, hel, ptsCells_app]; rfl
     rw [htk] at rown
     have FIN := Lib.hid (And.intro rown (And.intro hbx4 (And.intro hbw4 (show w.heap.size + 1 ≤ w4.heap.size by have := hgrow.size; omega))))
     clear hrow hbx hbw hsz hpn hb3 hs3 hrow3 hbx3 hbw3 rown hgrow hkept hne hbx4 hbw4 htk hel
     go_wp2_with (refine wpList_append_row rfl _ _ 38 rfl rfl rfl hrun ?_)
     have FI := FIN.out
     exact ⟨⟨x + 1, _, by omega, by go_num, rfl, FI.1, FI.2.1, FI.2.2.1, FI.2.2.2⟩, by simp [intOf]; omega⟩
    ·obtain rfl : x = 3 := by omega
     have FIN := Lib.hid (And.intro hrow (And.intro hbx (And.intro hbw hsz)))
     clear hrow hbx hbw hsz
     go_wp2
     have FI := FIN.out
     have hrow := FI.1
     rw [show y * 3 + 3 = (y + 1) * 3 by omega] at hrow
     exact ⟨⟨y + 1, _, by omega, by go_num, rfl, hrow, FI.2.1, FI.2.2.1, FI.2.2.2⟩, by simp [intOf]; omega⟩
  ·obtain rfl : y = 2 := by omega
   have hpt : (gridP 2 1).take (2 * 3) = gridP 2 1 := rfl
   rw [hpt] at hrow
   obtain ⟨gp, gpc, hvv⟩ : ∃ g c, vv = .slice (some ⟨g, 0, none⟩) 6 c := by
    rcases hrow.2 with ⟨h1, h2⟩ | ⟨g, cap, cur, h1, h2, h3⟩
    ·omega
    ·exact ⟨g, cap, h1⟩
   subst hvv
   have hpl := hrow.lt gp rfl
   obtain ⟨w5, hw5⟩ : ∃ w5, w5 = wr := ⟨_, rfl⟩
   rw [← hw5] at hrow hbx hbw hsz hpl
   rw [← hw5]
   have HROW := Lib.hid hrow; have HBX := Lib.hid hbx; have HBW := Lib.hid hbw; have HSZ := Lib.hid hsz; have HPL := Lib.hid hpl
   clear hrow hbx hbw hsz hpl hw5
   go_wp2
   go_loopw [13, 15, 16, 17, 18, 19, 20, 21, 55] (fun tv kv _ _ _ _ _ _ iv wr => ∃ (y : Nat) (vv : Value), y ≤ 1 ∧ iv = .int .i64 (y : Int) ∧ kv = .int .i64 ((y * 2 : Nat) : Int) ∧ vv = tv ∧ RowN wr w5.heap.size 34 3 vv (2 * (y * 2)) (tr3Cells ((gridT 2 1 bn).take (2 * (y * 2)))) ∧ Below w5.heap.size w5 wr) (fun _ _ _ _ _ _ _ _ iv _ => 1 - (intOf iv).toNat)
   case atStart => exact ⟨0, _, Nat.zero_le _, rfl, rfl, rfl, RowN.nil _ _ _ _, Below.refl _ _⟩
   case round =>
    obtain ⟨y, vv, hy, rfl, rfl, rfl, hrow, hbw⟩ := hrel
    by_cases hlt : y < 1
    ·have hyd : decide ((y : Int) < 1) = true := decide_eq_true (by omega)
     have cw := (HBX.out.below hbw).c 0 _ rfl
     have HRW := Lib.hid hrow; have HBZ := Lib.hid hbw
     clear hrow hbw
     go_wp2
     clear cw
     go_loopw [13, 15, 17, 18, 19, 20, 21, 59] (fun tv kv _ _ _ _ _ iv wr => ∃ (x : Nat) (vv : Value), x ≤ 2 ∧ iv = .int .i64 (x : Int) ∧ kv = .int .i64 ((y * 2 + x : Nat) : Int) ∧ vv = tv ∧ RowN wr w5.heap.size 34 3 vv (2 * (y * 2 + x)) (tr3Cells ((gridT 2 1 bn).take (2 * (y * 2 + x)))) ∧ Below w5.heap.size w5 wr) (fun _ _ _ _ _ _ _ iv _ => 2 - (intOf iv).toNat)
     case atStart => exact ⟨0, _, Nat.zero_le _, rfl, by rw [Nat.add_zero], rfl, HRW.out, HBZ.out⟩
     case round =>
      obtain ⟨x, vv, hx, rfl, rfl, rfl, hrow, hbw⟩ := hrel
      by_cases hlx : x < 2
      ·have cw := (HBX.out.below hbw).c 0 _ rfl
       have hev := HM.out.even y x hlt hlx
       have hod := HM.out.odd y x hlt hlx
       have hbt := HBIT.out (y * 2 + x) (by omega)
       obtain ⟨q, hq⟩ : ∃ q, bn.testBit (y * 2 + x) = q := ⟨_, rfl⟩
       rw [hq] at hev hod hbt
       have a0 := gridNo_any w.heap.size 2 x y wr (by omega) (by omega) (by omega) cw ((y : Int) * 3 + (x : Int)) (by omega)
       have a1 := gridNo_any w.heap.size 2 (x + 1) y wr (by omega) (by omega) (by omega) cw ((y : Int) * 3 + ((x : Int) + 1)) (by omega)
       have a2 := gridNo_any w.heap.size 2 (x + 1) (y + 1) wr (by omega) (by omega) (by omega) cw (((y : Int) + 1) * 3 + ((x : Int) + 1)) (by omega)
       have a3 := gridNo_any w.heap.size 2 x (y + 1) wr (by omega) (by omega) (by omega) cw (((y : Int) + 1) * 3 + (x : Int)) (by omega)
       rw [show (((x + 1 : Nat)) : Int) = (x : Int) + 1 by omega] at a1 a2
       rw [show (((y + 1 : Nat)) : Int) = (y : Int) + 1 by omega] at a2 a3
       obtain ⟨ca, hca⟩ : ∃ c : Int, (y : Int) * 3 + (x : Int) = c := ⟨_, rfl⟩
       obtain ⟨cb, hcb⟩ : ∃ c : Int, (y : Int) * 3 + ((x : Int) + 1) = c := ⟨_, rfl⟩
       obtain ⟨cc, hcc⟩ : ∃ c : Int, ((y : Int) + 1) * 3 + ((x : Int) + 1) = c := ⟨_, rfl⟩
       obtain ⟨cd, hcd⟩ : ∃ c : Int, ((y : Int) + 1) * 3 + (x : Int) = c := ⟨_, rfl⟩
       rw [hca] at a0; rw [hcb] at a1; rw [hcc] at a2; rw [hcd] at a3
       have C0 := Lib.hid a0; have C1 := Lib.hid a1; have C2 := Lib.hid a2; have C3 := Lib.hid a3
       have HEV := Lib.hid hev; have HOD := Lib.hid hod; have HBT := Lib.hid hbt; have HRW2 := Lib.hid hrow; have HBZ2 := Lib.hid hbw
       have HCA := Lib.hid hca; have HCB := Lib.hid hcb; have HCC := Lib.hid hcc; have HCD := Lib.hid hcd
       obtain ⟨kk, hkk⟩ : ∃ kk : Nat, y * 2 + x = kk := ⟨_, rfl⟩
       have hkk4 : kk < 4 := by omega
       rw [hkk] at hbt
       unfold bitB at hbt
       have na : (((y * 3 + x : Nat)) : Int) = ca := by omega
       have nb : (((y * 3 + (x + 1) : Nat)) : Int) = cb := by omega
       have nc : ((((y + 1) * 3 + (x + 1) : Nat)) : Int) = cc := by omega
       have nd : ((((y + 1) * 3 + x : Nat)) : Int) = cd := by omega
       have HKK := Lib.hid hkk
       rw [hkk]
       have HNA := Lib.hid (And.intro na (And.intro nb (And.intro nc nd)))
       clear a0 a1 a2 a3 hev hod hrow hbw hca hcb hcc hcd cw hkk na nb nc nd hq
       cases q
       ·have hev' : (gridT 2 1 bn)[2 * (y * 2 + x)]? = some (y * 3 + (x + 1), (y + 1) * 3 + x, y * 3 + x) := HEV.out
        have hod' : (gridT 2 1 bn)[2 * (y * 2 + x) + 1]? = some ((y + 1) * 3 + x, y * 3 + (x + 1), (y + 1) * 3 + (x + 1)) := HOD.out
        have HEV' := Lib.hid hev'; have HOD' := Lib.hid hod'
        clear hev' hod'
        go_wp2_with fail
        refine C0.out.mono ?_
        rintro e w6 ⟨rfl, rfl⟩
        go_wp2_with fail
        refine C1.out.mono ?_
        rintro e w6 ⟨rfl, rfl⟩
        go_wp2_with fail
        refine C2.out.mono ?_
        rintro e w6 ⟨rfl, rfl⟩
        go_wp2_with fail
        refine C3.out.mono ?_
        rintro e w6 ⟨rfl, rfl⟩
        obtain ⟨w6, hw6, hpn, hb6, hs6⟩ := new_box wr _ rfl [.int .i64 cb, .int .i64 cd, .int .i64 ca, .int .i64 cd, .int .i64 cb, .int .i64 cc] 34
        have hrow6 := HRW2.out.below hb6
        have hbw6 := HBZ2.out.trans (hb6.mono HBZ2.out.size)
        obtain ⟨v1, w7, hrun, rown, hgrow, hkept⟩ := run_append_row (P := Tryz.prog) w6 w5.heap.size 78 78 34 j0 (.agg #[.int .i64 0, .int .i64 0, .int .i64 0]) 3 24 (by kernel_rfl) HJ.out HY0.out HY1.out HY2.out rfl (noWordI3 _ _ _) _ (2 * (y * 2 + x)) _ hrow6 ⟨wr.heap.size, 0, none⟩ 2 2 [.int .i64 cb, .int .i64 cd, .int .i64 ca, .int .i64 cd, .int .i64 cb, .int .i64 cc] (by omega) rfl hpn.news (by intro u hu; simp at hu; rcases hu with rfl | rfl | rfl | rfl | rfl | rfl <;> rfl) (noWordI6 _ _ _ _ _ _) (by unfold maxLen; omega) (by omega) (by have := hbw6.size; omega)
        have hbw7 : Below w5.heap.size w5 w7 := hbw6.grown hgrow (by have := hbw6.size; omega) (fun k hk => (hrow6.lt k hk).1)
        have htk : tr3Cells ((gridT 2 1 bn).take (2 * (y * 2 + x))) ++ [.int .i64 cb, .int .i64 cd, .int .i64 ca, .int .i64 cd, .int .i64 cb, .int .i64 cc] = tr3Cells ((gridT 2 1 bn).take (2 * (y * 2 + (x + 1)))) := by
         obtain ⟨na, nb, nc, nd⟩ := HNA.out
         rw [show 2 * (y * 2 + (x + 1)) = 2 * (y * 2 + x) + 1 + 1 by omega, List.take_add_one, List.take_add_one, HEV'.out, HOD'.out, tr3_app, tr3_app, List.append_assoc]
         simp only [Option.toList_some, tr3Cells, na, nb, nc, nd, List.cons_append, List.nil_append]
        rw [htk, show 2 * (y * 2 + x) + 2 = 2 * (y * 2 + (x + 1)) by omega] at rown
        have FIN := Lib.hid (And.intro rown hbw7)
        clear hpn hb6 hs6 hrow6 hbw6 rown hgrow hkept hbw7 htk
        go_wp2_with (refine wpList_append_row rfl _ _ 78 rfl rfl rfl hrun ?_)
        have hkk := HKK.out
        refine ⟨⟨_, _, _, _, _, _, _, _, _, _, _, _, _, _, _, _, _, _, _, _, _, _, _, _, _, _, _, _, _, _, _, _, _, _, _, _, _, _, _, _, _, _, _, _, _, _, _, _, _, _, _, _, _, _, _, _, _, _, _, _, ?_, rfl⟩, by simp [intOf]; omega⟩
        exact ⟨x + 1, _, by omega, by go_num, congrArg (Value.int .i64) (by omega), rfl, FIN.out.1, FIN.out.2⟩
       ·have hev' : (gridT 2 1 bn)[2 * (y * 2 + x)]? = some (y * 3 + x, y * 3 + (x + 1), (y + 1) * 3 + (x + 1)) := HEV.out
        have hod' : (gridT 2 1 bn)[2 * (y * 2 + x) + 1]? = some ((y + 1) * 3 + (x + 1), (y + 1) * 3 + x, y * 3 + x) := HOD.out
        have HEV' := Lib.hid hev'; have HOD' := Lib.hid hod'
        clear hev' hod'
        go_wp2_with fail
        refine C0.out.mono ?_
        rintro e w6 ⟨rfl, rfl⟩
        go_wp2_with fail
        refine C1.out.mono ?_
        rintro e w6 ⟨rfl, rfl⟩
        go_wp2_with fail
        refine C2.out.mono ?_
        rintro e w6 ⟨rfl, rfl⟩
        go_wp2_with fail
        refine C3.out.mono ?_
        rintro e w6 ⟨rfl, rfl⟩
        obtain ⟨w6, hw6, hpn, hb6, hs6⟩ := new_box wr _ rfl [.int .i64 ca, .int .i64 cb, .int .i64 cc, .int .i64 cc, .int .i64 cd, .int .i64 ca] 34
        have hrow6 := HRW2.out.below hb6
        have hbw6 := HBZ2.out.trans (hb6.mono HBZ2.out.size)
        obtain ⟨v1, w7, hrun, rown, hgrow, hkept⟩ := run_append_row (P := Tryz.prog) w6 w5.heap.size 78 78 34 j0 (.agg #[.int .i64 0, .int .i64 0, .int .i64 0]) 3 24 (by kernel_rfl) HJ.out HY0.out HY1.out HY2.out rfl (noWordI3 _ _ _) _ (2 * (y * 2 + x)) _ hrow6 ⟨wr.heap.size, 0, none⟩ 2 2 [.int .i64 ca, .int .i64 cb, .int .i64 cc, .int .i64 cc, .int .i64 cd, .int .i64 ca] (by omega) rfl hpn.news (by intro u hu; simp at hu; rcases hu with rfl | rfl | rfl | rfl | rfl | rfl <;> rfl) (noWordI6 _ _ _ _ _ _) (by unfold maxLen; omega) (by omega) (by have := hbw6.size; omega)
        have hbw7 : Below w5.heap.size w5 w7 := hbw6.grown hgrow (by have := hbw6.size; omega) (fun k hk => (hrow6.lt k hk).1)
        have htk : tr3Cells ((gridT 2 1 bn).take (2 * (y * 2 + x))) ++ [.int .i64 ca, .int .i64 cb, .int .i64 cc, .int .i64 cc, .int .i64 cd, .int .i64 ca] = tr3Cells ((gridT 2 1 bn).take (2 * (y * 2 + (x + 1)))) := by
         obtain ⟨na, nb, nc, nd⟩ := HNA.out
         rw [show 2 * (y * 2 + (x + 1)) = 2 * (y * 2 + x) + 1 + 1 by omega, List.take_add_one, List.take_add_one, HEV'.out, HOD'.out, tr3_app, tr3_app, List.append_assoc]
         simp only [Option.toList_some, tr3Cells, na, nb, nc, nd, List.cons_append, List.nil_append]
        rw [htk, show 2 * (y * 2 + x) + 2 = 2 * (y * 2 + (x + 1)) by omega] at rown
        have FIN := Lib.hid (And.intro rown hbw7)
        clear hpn hb6 hs6 hrow6 hbw6 rown hgrow hkept hbw7 htk
        go_wp2_with (refine wpList_append_row rfl _ _ 78 rfl rfl rfl hrun ?_)
        have hkk := HKK.out
        refine ⟨⟨_, _, _, _, _, _, _, _, _, _, _, _, _, _, _, _, _, _, _, _, _, _, _, _, _, _, _, _, _, _, _, _, _, _, _, _, _, _, _, _, _, _, _, _, _, _, _, _, _, _, _, _, _, _, _, _, _, _, _, _, ?_, rfl⟩, by simp [intOf]; omega⟩
        exact ⟨x + 1, _, by omega, by go_num, congrArg (Value.int .i64) (by omega), rfl, FIN.out.1, FIN.out.2⟩
      ·obtain rfl : x = 2 := by omega
       have FIN := Lib.hid (And.intro hrow hbw)
       clear hrow hbw
       go_wp2
       have hrow := FIN.out.1
       rw [show y * 2 + 2 = (y + 1) * 2 by omega] at hrow
       exact ⟨⟨y + 1, _, by omega, by go_num, congrArg (Value.int .i64) (by omega), rfl, hrow, FIN.out.2⟩, by simp [intOf]; omega⟩
    ·obtain rfl : y = 1 := by omega
     have hgl := HM.out.len
     have htt : (gridT 2 1 bn).take (2 * (1 * 2)) = gridT 2 1 bn := List.take_of_length_le (by rw [hgl]; omega)
     rw [htt] at hrow
     obtain ⟨gt, gtc, hvv⟩ : ∃ g c, vv = .slice (some ⟨g, 0, none⟩) 4 c := by
      rcases hrow.2 with ⟨h1, h2⟩ | ⟨g, cap, cur, h1, h2, h3⟩
      ·omega
      ·exact ⟨g, cap, h1⟩
     subst hvv
     have hgtl := hrow.lt gt rfl
     obtain ⟨w7, hw7⟩ : ∃ w7, w7 = wr := ⟨_, rfl⟩
     rw [← hw7] at hrow hbw hgtl
     rw [← hw7]
     clear hw7
     obtain ⟨fb, hfb⟩ : ∃ fb, w7.heap.size = fb := ⟨_, rfl⟩
     obtain ⟨hmk, hmp⟩ := run_new_map (P := Tryz.prog) w7 137 138
     obtain ⟨w8, hw8⟩ : ∃ w8, w7.alloc (.map #[] 0) = w8 := ⟨_, rfl⟩
     rw [hw8, hfb] at hmk hmp
     have hb8 : Below fb w7 w8 := by rw [← hw8, ← hfb]; exact (Below.refl _ _).alloc (Nat.le_refl _) _
     have htr := hrow.trIn
     have HRWT := Lib.hid hrow; have HBT := Lib.hid hbw; have HTR := Lib.hid htr; have HGTL := Lib.hid hgtl; have HFB := Lib.hid hfb; have HMP := Lib.hid (fault_new hmp); have HB8 := Lib.hid hb8
     clear hrow hbw htr hgtl hfb hmp hb8 hw8
     go_wp2
     clear hmk
     go_loopw [23, 25, 26, 116] (fun nv _ _ iv wr => ∃ j : Nat, j ≤ 4 ∧ iv = .int .i64 (j : Int) ∧ nv = .int .i64 ((3 * j : Nat) : Int) ∧ (∃ F, FaultMap Tryz.prog 138 wr fb F) ∧ Below fb w7 wr) (fun _ _ _ iv _ => 4 - (intOf iv).toNat)
     case atStart => exact ⟨0, Nat.zero_le _, rfl, rfl, ⟨_, HMP.out⟩, HB8.out⟩
     case round =>
      obtain ⟨j, hj, rfl, rfl, ⟨F, hF⟩, hbw⟩ := hrel
      by_cases hlt : j < 4
      ·have hyd : decide ((j : Int) < 4) = true := decide_eq_true (by omega)
       obtain ⟨⟨x, y, z⟩, hv⟩ : ∃ v, (gridT 2 1 bn)[j]? = some v := ⟨_, List.getElem?_eq_getElem (by have := HM.out.len; omega)⟩
       obtain ⟨px, py, pz⟩ := OK.out.pts _ (List.mem_of_getElem? hv)
       have hpl6 := OK.out.many
       simp only [] at px py pz
       have htk := HTR.out j (x : Int) (y : Int) (z : Int) (by rw [List.getElem?_map, hv]; rfl)
       have hfb := HFB.out
       have l1 := World.block_lt_of_cell? w7 _ htk.1
       simp only [] at l1
       have ka := (hbw.cell (p := ⟨gt, j * 3, none⟩) (by show gt < fb; omega)).trans htk.1
       have kb := (hbw.cell (p := ⟨gt, j * 3 + 1, none⟩) (by show gt < fb; omega)).trans htk.2.1
       have kc := (hbw.cell (p := ⟨gt, j * 3 + 2, none⟩) (by show gt < fb; omega)).trans htk.2.2
       obtain ⟨w9, hw9, hpv, hb9, hs9⟩ := new_box wr _ rfl [.int .i64 (x : Int), .int .i64 (y : Int), .int .i64 (z : Int)] 34
       have hF9 := hF.same (hb9.block fb hF.lt)
       have hfl := hF.lt
       have hbw9 : Below fb w7 w9 := hbw.trans (hb9.mono (by omega))
       obtain ⟨tb, htb⟩ : ∃ tb, wr.heap.size = tb := ⟨_, rfl⟩
       have htf : fb < tb := by omega
       rw [htb] at hpv
       have HF9 := Lib.hid hF9; have HBW9 := Lib.hid hbw9; have HPV := Lib.hid hpv
       have hxyz : x < 10 ∧ y < 10 ∧ z < 10 := by
        have : (gridP 2 1).length = 6 := rfl
        omega
       clear hv px py pz htk hfb l1 hb9 hs9 hF9 hbw9 hpv hF hbw hfl hpl6
       go_wp2
       clear ka kb kc hw9 htb
       go_loopw [23, 26, 120] (fun nv _ iv wr => ∃ i : Nat, i ≤ 3 ∧ iv = .int .i64 (i : Int) ∧ nv = .int .i64 ((3 * j + i : Nat) : Int) ∧ (∃ F, FaultMap Tryz.prog 138 wr fb F) ∧ Box wr tb [.int .i64 (x : Int), .int .i64 (y : Int), .int .i64 (z : Int)] ∧ Below fb w7 wr) (fun _ _ iv _ => 3 - (intOf iv).toNat)
       case atStart => exact ⟨0, Nat.zero_le _, rfl, rfl, ⟨_, HF9.out⟩, HPV.out, HBW9.out⟩
       case round =>
        obtain ⟨i, hi, rfl, rfl, ⟨F2, hF2⟩, hbx, hbw⟩ := hrel
        by_cases hli : i < 3
        ·obtain ⟨nn, hnn⟩ : ∃ nn : Nat, 3 * j + i = nn := ⟨_, rfl⟩
         have hnn24 : nn < 24 := by omega
         have HNN := Lib.hid hnn
         rw [hnn]
         clear hnn
         have HF2 := Lib.hid hF2; have HBX2 := Lib.hid hbx; have HBW2 := Lib.hid hbw
         clear hF2 hbx hbw
         obtain ⟨q, hq⟩ : ∃ q : Bool, (bits .and .u32 (f / 2 ^ (nn % 32)) 1 == 1) = q := ⟨_, rfl⟩
         have hfb2 := HF2.out.lt
         have hd3 := (HF2.out.same (w' := wr.drew) rfl)
         have hx3 := HBX2.out.drew
         have hw3 := HBW2.out.drew'
         have HF3 := Lib.hid hd3; have HBX3 := Lib.hid hx3; have HBW3 := Lib.hid hw3
         clear hd3 hx3 hw3
         cases q
         ·go_wp2
          have hnn := HNN.out
          exact ⟨⟨i + 1, by omega, by go_num, congrArg (Value.int .i64) (by omega), ⟨_, HF2.out⟩, HBX2.out, HBW2.out⟩, by simp [intOf]; omega⟩
         ·obtain rfl | rfl | rfl : i = 0 ∨ i = 1 ∨ i = 2 := by omega
          ·obtain ⟨mn, hmn⟩ : ∃ mn : Int, (if (y : Int) < (x : Int) then (y : Int) else (x : Int)) = mn := ⟨_, rfl⟩
           obtain ⟨mx, hmx⟩ : ∃ mx : Int, (if (y : Int) > (x : Int) then (y : Int) else (x : Int)) = mx := ⟨_, rfl⟩
           have bmn : -1000000 ≤ mn ∧ mn ≤ 1000000 := by rw [← hmn]; split <;> omega
           have bmx : -1000000 ≤ mx ∧ mx ≤ 1000000 := by rw [← hmx]; split <;> omega
           have hmin : ∀ w : World, Sem.run Tryz.prog (Builtin.min_ #[3, 3] 3 #[.int .i64 (x : Int), .int .i64 (y : Int)]) w = Result.ok (Value.int .i64 mn) w := fun w => by rw [run_min_int2, hmn]
           have hmax : ∀ w : World, Sem.run Tryz.prog (Builtin.max_ #[3, 3] 3 #[.int .i64 (x : Int), .int .i64 (y : Int)]) w = Result.ok (Value.int .i64 mx) w := fun w => by rw [run_max_int2, hmx]
           have hwk : (IntKind.i64.wrap 1).tmod 3 = 1 := by decide
           obtain ⟨wm, F4, hup, hT4, hF4⟩ := fault_store HF3.out bmn bmx
           have hx0 := HBX3.out.c 0 _ rfl; have hx1 := HBX3.out.c 1 _ rfl
           have hbx4 := HBX3.out.turned hT4 (by omega)
           have hbw4 : Below fb w7 wm := Below.turned HBW3.out hT4 (Nat.le_refl _)
           have hy0 := hbx4.c 0 _ rfl; have hy1 := hbx4.c 1 _ rfl
           have FIN := Lib.hid (And.intro hF4 (And.intro hbx4 hbw4))
           clear hmn hmx bmn bmx hT4 hF4 hbx4 hbw4
           go_wp2_with fail
           obtain ⟨SSs, hSSs⟩ : ∃ S : Array Bool → World → Prop, ∀ l w', S l w' ↔ ((w'.cell? ⟨tb, 0, none⟩ = some (.int .i64 (x : Int))) ∧ (w'.cell? ⟨tb, 1, none⟩ = some (.int .i64 (y : Int)))) := ⟨_, fun _ _ => Iff.rfl⟩
           refine wp_region_noPanic ?_
           refine wp_region_G SSs 21 #[false, false, false, false, false, false, false, false, false, false, false, false, false, false, false, false, false, false, false, false, false] (by kernel_rfl) (by kernel_rfl) (by kernel_rfl) ((hSSs _ _).2 ⟨hx0, hx1⟩) (fun hCl hHeld => ?_)
           generalize wr.drew = wd at *
           refine rG 0 ?_ ?_ ?_ ?_ ?_ ?_ hCl hHeld ?_;rotate_left 2
           ·simp only [gA,gZ]; exact rfl
           ·intro l w'; rw [hSSs, hSSs]
           ·rfl
           ·intro w' hA;clear hA;go_simp;try with_reducible rfl
           clear hCl hHeld
           intro hCl hHeld
           simp only [List.setIfInBounds_toArray, List.set_cons_zero] at hCl hHeld
           (try simp only [Act.put]);try simp only [sA,sZ,sS]
           refine rG 1 ?_ ?_ ?_ ?_ ?_ ?_ hCl hHeld ?_;rotate_left 2
           ·simp only [gA,gS,gZ]; exact rfl
           ·intro l w'; rw [hSSs, hSSs]
           ·rfl
           ·intro w' hA;clear hA;go_simp;try with_reducible rfl
           clear hCl hHeld
           intro hCl hHeld
           simp only [sA,sZ,sS] at hCl hHeld
           (try simp only [Act.put]);try simp only [sA,sZ,sS]
           refine rG 2 ?_ ?_ ?_ ?_ ?_ ?_ hCl hHeld ?_;rotate_left 2
           ·simp only [gA,gS,gZ]; exact rfl
           ·intro l w'; rw [hSSs, hSSs]
           ·rfl
           ·intro w' hA;clear hA;go_simp;try with_reducible rfl
           clear hCl hHeld
           intro hCl hHeld
           simp only [sA,sZ,sS] at hCl hHeld
           (try simp only [Act.put]);try simp only [sA,sZ,sS]
           refine rG 3 ?_ ?_ ?_ ?_ ?_ ?_ hCl hHeld ?_;rotate_left 2
           ·simp only [gA,gS,gZ]; exact rfl
           ·intro l w'; rw [hSSs, hSSs]
           ·rfl
           ·intro w' hA; obtain ⟨l, hl, hi, hSl⟩ := hA; have hSl := (hSSs _ _).1 hSl; obtain ⟨hz0, hz1⟩ := hSl; go_simp; try with_reducible rfl
           clear hCl hHeld
           intro hCl hHeld
           simp only [sA,sZ,sS] at hCl hHeld
           (try simp only [Act.put]);try simp only [sA,sZ,sS]
           refine rG 4 ?_ ?_ ?_ ?_ ?_ ?_ hCl hHeld ?_;rotate_left 2
           ·simp only [gA,gS,gZ]; exact rfl
           ·intro l w'; rw [hSSs, hSSs]
           ·rfl
           ·intro w' hA;clear hA;go_simp;try with_reducible rfl
           clear hCl hHeld
           intro hCl hHeld
           simp only [sA,sZ,sS] at hCl hHeld
           (try simp only [Act.put]);try simp only [sA,sZ,sS]
           refine rG 5 ?_ ?_ ?_ ?_ ?_ ?_ hCl hHeld ?_;rotate_left 2
           ·simp only [gA,gS,gZ]; exact rfl
           ·intro l w'; rw [hSSs, hSSs]
           ·rfl
           ·intro w' hA;clear hA;go_simp;try with_reducible rfl
           clear hCl hHeld
           intro hCl hHeld
           simp only [sA,sZ,sS] at hCl hHeld
           (try simp only [Act.put]);try simp only [sA,sZ,sS]
           refine rG 6 ?_ ?_ ?_ ?_ ?_ ?_ hCl hHeld ?_;rotate_left 2
           ·simp only [gA,gS,gZ]; exact rfl
           ·intro l w'; rw [hSSs, hSSs]
           ·rfl
           ·intro w' hA;clear hA;go_simp;try with_reducible rfl
           clear hCl hHeld
           intro hCl hHeld
           simp only [sA,sZ,sS] at hCl hHeld
           (try simp only [Act.put]);try simp only [sA,sZ,sS]
           refine rG 7 ?_ ?_ ?_ ?_ ?_ ?_ hCl hHeld ?_;rotate_left 2
           ·simp only [gA,gS,gZ]; exact rfl
           ·intro l w'; rw [hSSs, hSSs]
           ·rfl
           ·intro w' hA;clear hA;go_simp;try with_reducible rfl
           clear hCl hHeld
           intro hCl hHeld
           simp only [sA,sZ,sS] at hCl hHeld
           (try simp only [Act.put]);try simp only [sA,sZ,sS]
           refine rG 8 ?_ ?_ ?_ ?_ ?_ ?_ hCl hHeld ?_;rotate_left 2
           ·simp only [gA,gS,gZ]; exact rfl
           ·intro l w'; rw [hSSs, hSSs]
           ·rfl
           ·intro w' hA; obtain ⟨l, hl, hi, hSl⟩ := hA; have hSl := (hSSs _ _).1 hSl; obtain ⟨hz0, hz1⟩ := hSl; go_simp; try with_reducible rfl
           clear hCl hHeld
           intro hCl hHeld
           simp only [sA,sZ,sS] at hCl hHeld
           (try simp only [Act.put]);try simp only [sA,sZ,sS]
           refine rG 9 ?_ ?_ ?_ ?_ ?_ ?_ hCl hHeld ?_;rotate_left 2
           ·simp only [gA,gS,gZ]; exact rfl
           ·intro l w'; rw [hSSs, hSSs]
           ·rfl
           ·intro w' hA;clear hA;go_simp;try with_reducible rfl
           clear hCl hHeld
           intro hCl hHeld
           simp only [sA,sZ,sS] at hCl hHeld
           (try simp only [Act.put]);try simp only [sA,sZ,sS]
           refine rG 10 ?_ ?_ ?_ ?_ ?_ ?_ hCl hHeld ?_;rotate_left 2
           ·simp only [gA,gS,gZ]; exact rfl
           ·intro l w'; rw [hSSs, hSSs]
           ·rfl
           ·intro w' hA;clear hA;go_simp;try with_reducible rfl
           clear hCl hHeld
           intro hCl hHeld
           simp only [sA,sZ,sS] at hCl hHeld
           (try simp only [Act.put]);try simp only [sA,sZ,sS]
           refine rG 11 ?_ ?_ ?_ ?_ ?_ ?_ hCl hHeld ?_;rotate_left 2
           ·simp only [gA,gS,gZ]; exact rfl
           ·intro l w'; rw [hSSs, hSSs]
           ·rfl
           ·intro w' hA;clear hA;go_simp;try with_reducible rfl
           clear hCl hHeld
           intro hCl hHeld
           simp only [sA,sZ,sS] at hCl hHeld
           (try simp only [Act.put]);try simp only [sA,sZ,sS]
           refine rG 12 ?_ ?_ ?_ ?_ ?_ ?_ hCl hHeld ?_;rotate_left 2
           ·simp only [gA,gS,gZ]; exact rfl
           ·intro l w'; rw [hSSs, hSSs]
           ·rfl
           ·intro w' hA; obtain ⟨l, hl, hi, hSl⟩ := hA; have hSl := (hSSs _ _).1 hSl; obtain ⟨hz0, hz1⟩ := hSl; go_simp; try with_reducible rfl
           clear hCl hHeld
           intro hCl hHeld
           simp only [sA,sZ,sS] at hCl hHeld
           (try simp only [Act.put]);try simp only [sA,sZ,sS]
           refine rG 13 ?_ ?_ ?_ ?_ ?_ ?_ hCl hHeld ?_;rotate_left 2
           ·simp only [gA,gS,gZ]; exact rfl
           ·intro l w'; rw [hSSs, hSSs]
           ·rfl
           ·intro w' hA;clear hA;go_simp;try with_reducible rfl
           clear hCl hHeld
           intro hCl hHeld
           simp only [sA,sZ,sS] at hCl hHeld
           (try simp only [Act.put]);try simp only [sA,sZ,sS]
           refine rG 14 ?_ ?_ ?_ ?_ ?_ ?_ hCl hHeld ?_;rotate_left 2
           ·simp only [gA,gS,gZ]; exact rfl
           ·intro l w'; rw [hSSs, hSSs]
           ·rfl
           ·intro w' hA;clear hA;go_simp;try with_reducible rfl
           clear hCl hHeld
           intro hCl hHeld
           simp only [sA,sZ,sS] at hCl hHeld
           (try simp only [Act.put]);try simp only [sA,sZ,sS]
           refine rG 15 ?_ ?_ ?_ ?_ ?_ ?_ hCl hHeld ?_;rotate_left 2
           ·simp only [gA,gS,gZ]; exact rfl
           ·intro l w'; rw [hSSs, hSSs]
           ·rfl
           ·intro w' hA;clear hA;go_simp;try with_reducible rfl
           clear hCl hHeld
           intro hCl hHeld
           simp only [sA,sZ,sS] at hCl hHeld
           (try simp only [Act.put]);try simp only [sA,sZ,sS]
           refine rG 16 ?_ ?_ ?_ ?_ ?_ ?_ hCl hHeld ?_;rotate_left 2
           ·simp only [gA,gS,gZ]; exact rfl
           ·intro l w'; rw [hSSs, hSSs]
           ·rfl
           ·intro w' hA;clear hA;go_simp;try with_reducible rfl
           clear hCl hHeld
           intro hCl hHeld
           simp only [sA,sZ,sS] at hCl hHeld
           (try simp only [Act.put]);try simp only [sA,sZ,sS]
           refine rG 17 ?_ ?_ ?_ ?_ ?_ ?_ hCl hHeld ?_;rotate_left 2
           ·simp only [gA,gS,gZ]; exact rfl
           ·intro l w'; rw [hSSs, hSSs]
           ·rfl
           ·intro w' hA; obtain ⟨l, hl, hi, hSl⟩ := hA; have hSl := (hSSs _ _).1 hSl; obtain ⟨hz0, hz1⟩ := hSl; go_simp; try with_reducible rfl
           clear hCl hHeld
           intro hCl hHeld
           simp only [sA,sZ,sS] at hCl hHeld
           (try simp only [Act.put]);try simp only [sA,sZ,sS]
           refine rG 18 ?_ ?_ ?_ ?_ ?_ ?_ hCl hHeld ?_;rotate_left 2
           ·simp only [gA,gS,gZ]; exact rfl
           ·intro l w'; rw [hSSs, hSSs]
           ·rfl
           ·intro w' hA;clear hA;go_simp;try with_reducible rfl
           clear hCl hHeld
           intro hCl hHeld
           simp only [sA,sZ,sS] at hCl hHeld
           (try simp only [Act.put]);try simp only [sA,sZ,sS]
           refine rG 19 ?_ ?_ ?_ ?_ ?_ ?_ hCl hHeld ?_;rotate_left 2
           ·simp only [gA,gS,gZ]; exact rfl
           ·intro l w'; rw [hSSs, hSSs]
           ·rfl
           ·intro w' hA;clear hA;go_simp;try with_reducible rfl
           clear hCl hHeld
           intro hCl hHeld
           simp only [sA,sZ,sS] at hCl hHeld
           (try simp only [Act.put]);try simp only [sA,sZ,sS]
           clear hCl hHeld
           refine reg_callG 20 ?_ (by kernel_rfl) ?_ (fun K hK => ?_);rotate_left 1
           ·simp only [gA,gS,gZ]; exact rfl
           go_simp
           clear hx0 hx1 hup
           refine hK.out _ _ ((hSSs _ _).2 ⟨hy0, hy1⟩) ?_
           clear hK K
           (try simp only [Act.put]);try simp only [sA,sZ,sS]
           refine wpAnyG_done (by kernel_rfl) ?_ _
           refine NoPanic.normal ?_
           clear hSSs SSs
           go_wp2
           have hnn := HNN.out
           refine ⟨⟨_, _, _, _, _, _, _, _, _, _, _, _, _, _, _, _, _, _, _, _, _, _, _, _, _, _, _, _, _, _, _, _, _, _, ?_, rfl⟩, by simp [intOf]⟩
           exact ⟨0 + 1, by omega, by go_num, congrArg (Value.int .i64) (by omega), ⟨_, FIN.out.1⟩, FIN.out.2.1, FIN.out.2.2⟩
          ·obtain ⟨mn, hmn⟩ : ∃ mn : Int, (if (z : Int) < (y : Int) then (z : Int) else (y : Int)) = mn := ⟨_, rfl⟩
           obtain ⟨mx, hmx⟩ : ∃ mx : Int, (if (z : Int) > (y : Int) then (z : Int) else (y : Int)) = mx := ⟨_, rfl⟩
           have bmn : -1000000 ≤ mn ∧ mn ≤ 1000000 := by rw [← hmn]; split <;> omega
           have bmx : -1000000 ≤ mx ∧ mx ≤ 1000000 := by rw [← hmx]; split <;> omega
           have hmin : ∀ w : World, Sem.run Tryz.prog (Builtin.min_ #[3, 3] 3 #[.int .i64 (y : Int), .int .i64 (z : Int)]) w = Result.ok (Value.int .i64 mn) w := fun w => by rw [run_min_int2, hmn]
           have hmax : ∀ w : World, Sem.run Tryz.prog (Builtin.max_ #[3, 3] 3 #[.int .i64 (y : Int), .int .i64 (z : Int)]) w = Result.ok (Value.int .i64 mx) w := fun w => by rw [run_max_int2, hmx]
           have hwk : (IntKind.i64.wrap 2).tmod 3 = 2 := by decide
           obtain ⟨wm, F4, hup, hT4, hF4⟩ := fault_store HF3.out bmn bmx
           have hx0 := HBX3.out.c 1 _ rfl; have hx1 := HBX3.out.c 2 _ rfl
           have hbx4 := HBX3.out.turned hT4 (by omega)
           have hbw4 : Below fb w7 wm := Below.turned HBW3.out hT4 (Nat.le_refl _)
           have hy0 := hbx4.c 1 _ rfl; have hy1 := hbx4.c 2 _ rfl
           have FIN := Lib.hid (And.intro hF4 (And.intro hbx4 hbw4))
           clear hmn hmx bmn bmx hT4 hF4 hbx4 hbw4
           go_wp2_with fail
           obtain ⟨SSs, hSSs⟩ : ∃ S : Array Bool → World → Prop, ∀ l w', S l w' ↔ ((w'.cell? ⟨tb, 1, none⟩ = some (.int .i64 (y : Int))) ∧ (w'.cell? ⟨tb, 2, none⟩ = some (.int .i64 (z : Int)))) := ⟨_, fun _ _ => Iff.rfl⟩
           refine wp_region_noPanic ?_
           refine wp_region_G SSs 21 #[false, false, false, false, false, false, false, false, false, false, false, false, false, false, false, false, false, false, false, false, false] (by kernel_rfl) (by kernel_rfl) (by kernel_rfl) ((hSSs _ _).2 ⟨hx0, hx1⟩) (fun hCl hHeld => ?_)
           generalize wr.drew = wd at *
           refine rG 0 ?_ ?_ ?_ ?_ ?_ ?_ hCl hHeld ?_;rotate_left 2
           ·simp only [gA,gZ]; exact rfl
           ·intro l w'; rw [hSSs, hSSs]
           ·rfl
           ·intro w' hA;clear hA;go_simp;try with_reducible rfl
           clear hCl hHeld
           intro hCl hHeld
           simp only [List.setIfInBounds_toArray, List.set_cons_zero] at hCl hHeld
           (try simp only [Act.put]);try simp only [sA,sZ,sS]
           refine rG 1 ?_ ?_ ?_ ?_ ?_ ?_ hCl hHeld ?_;rotate_left 2
           ·simp only [gA,gS,gZ]; exact rfl
           ·intro l w'; rw [hSSs, hSSs]
           ·rfl
           ·intro w' hA;clear hA;go_simp;try with_reducible rfl
           clear hCl hHeld
           intro hCl hHeld
           simp only [sA,sZ,sS] at hCl hHeld
           (try simp only [Act.put]);try simp only [sA,sZ,sS]
           refine rG 2 ?_ ?_ ?_ ?_ ?_ ?_ hCl hHeld ?_;rotate_left 2
           ·simp only [gA,gS,gZ]; exact rfl
           ·intro l w'; rw [hSSs, hSSs]
           ·rfl
           ·intro w' hA;clear hA;go_simp;try with_reducible rfl
           clear hCl hHeld
           intro hCl hHeld
           simp only [sA,sZ,sS] at hCl hHeld
           (try simp only [Act.put]);try simp only [sA,sZ,sS]
           refine rG 3 ?_ ?_ ?_ ?_ ?_ ?_ hCl hHeld ?_;rotate_left 2
           ·simp only [gA,gS,gZ]; exact rfl
           ·intro l w'; rw [hSSs, hSSs]
           ·rfl
           ·intro w' hA; obtain ⟨l, hl, hi, hSl⟩ := hA; have hSl := (hSSs _ _).1 hSl; obtain ⟨hz0, hz1⟩ := hSl; go_simp; try with_reducible rfl
           clear hCl hHeld
           intro hCl hHeld
           simp only [sA,sZ,sS] at hCl hHeld
           (try simp only [Act.put]);try simp only [sA,sZ,sS]
           refine rG 4 ?_ ?_ ?_ ?_ ?_ ?_ hCl hHeld ?_;rotate_left 2
           ·simp only [gA,gS,gZ]; exact rfl
           ·intro l w'; rw [hSSs, hSSs]
           ·rfl
           ·intro w' hA;clear hA;go_simp;try with_reducible rfl
           clear hCl hHeld
           intro hCl hHeld
           simp only [sA,sZ,sS] at hCl hHeld
           (try simp only [Act.put]);try simp only [sA,sZ,sS]
           refine rG 5 ?_ ?_ ?_ ?_ ?_ ?_ hCl hHeld ?_;rotate_left 2
           ·simp only [gA,gS,gZ]; exact rfl
           ·intro l w'; rw [hSSs, hSSs]
           ·rfl
           ·intro w' hA;clear hA;go_simp;try with_reducible rfl
           clear hCl hHeld
           intro hCl hHeld
           simp only [sA,sZ,sS] at hCl hHeld
           (try simp only [Act.put]);try simp only [sA,sZ,sS]
           refine rG 6 ?_ ?_ ?_ ?_ ?_ ?_ hCl hHeld ?_;rotate_left 2
           ·simp only [gA,gS,gZ]; exact rfl
           ·intro l w'; rw [hSSs, hSSs]
           ·rfl
           ·intro w' hA;clear hA;go_simp;try with_reducible rfl
           clear hCl hHeld
           intro hCl hHeld
           simp only [sA,sZ,sS] at hCl hHeld
           (try simp only [Act.put]);try simp only [sA,sZ,sS]
           refine rG 7 ?_ ?_ ?_ ?_ ?_ ?_ hCl hHeld ?_;rotate_left 2
           ·simp only [gA,gS,gZ]; exact rfl
           ·intro l w'; rw [hSSs, hSSs]
           ·rfl
           ·intro w' hA;clear hA;go_simp;try with_reducible rfl
           clear hCl hHeld
           intro hCl hHeld
           simp only [sA,sZ,sS] at hCl hHeld
           (try simp only [Act.put]);try simp only [sA,sZ,sS]
           refine rG 8 ?_ ?_ ?_ ?_ ?_ ?_ hCl hHeld ?_;rotate_left 2
           ·simp only [gA,gS,gZ]; exact rfl
           ·intro l w'; rw [hSSs, hSSs]
           ·rfl
           ·intro w' hA; obtain ⟨l, hl, hi, hSl⟩ := hA; have hSl := (hSSs _ _).1 hSl; obtain ⟨hz0, hz1⟩ := hSl; go_simp; try with_reducible rfl
           clear hCl hHeld
           intro hCl hHeld
           simp only [sA,sZ,sS] at hCl hHeld
           (try simp only [Act.put]);try simp only [sA,sZ,sS]
           refine rG 9 ?_ ?_ ?_ ?_ ?_ ?_ hCl hHeld ?_;rotate_left 2
           ·simp only [gA,gS,gZ]; exact rfl
           ·intro l w'; rw [hSSs, hSSs]
           ·rfl
           ·intro w' hA;clear hA;go_simp;try with_reducible rfl
           clear hCl hHeld
           intro hCl hHeld
           simp only [sA,sZ,sS] at hCl hHeld
           (try simp only [Act.put]);try simp only [sA,sZ,sS]
           refine rG 10 ?_ ?_ ?_ ?_ ?_ ?_ hCl hHeld ?_;rotate_left 2
           ·simp only [gA,gS,gZ]; exact rfl
           ·intro l w'; rw [hSSs, hSSs]
           ·rfl
           ·intro w' hA;clear hA;go_simp;try with_reducible rfl
           clear hCl hHeld
           intro hCl hHeld
           simp only [sA,sZ,sS] at hCl hHeld
           (try simp only [Act.put]);try simp only [sA,sZ,sS]
           refine rG 11 ?_ ?_ ?_ ?_ ?_ ?_ hCl hHeld ?_;rotate_left 2
           ·simp only [gA,gS,gZ]; exact rfl
           ·intro l w'; rw [hSSs, hSSs]
           ·rfl
           ·intro w' hA;clear hA;go_simp;try with_reducible rfl
           clear hCl hHeld
           intro hCl hHeld
           simp only [sA,sZ,sS] at hCl hHeld
           (try simp only [Act.put]);try simp only [sA,sZ,sS]
           refine rG 12 ?_ ?_ ?_ ?_ ?_ ?_ hCl hHeld ?_;rotate_left 2
           ·simp only [gA,gS,gZ]; exact rfl
           ·intro l w'; rw [hSSs, hSSs]
           ·rfl
           ·intro w' hA; obtain ⟨l, hl, hi, hSl⟩ := hA; have hSl := (hSSs _ _).1 hSl; obtain ⟨hz0, hz1⟩ := hSl; go_simp; try with_reducible rfl
           clear hCl hHeld
           intro hCl hHeld
           simp only [sA,sZ,sS] at hCl hHeld
           (try simp only [Act.put]);try simp only [sA,sZ,sS]
           refine rG 13 ?_ ?_ ?_ ?_ ?_ ?_ hCl hHeld ?_;rotate_left 2
           ·simp only [gA,gS,gZ]; exact rfl
           ·intro l w'; rw [hSSs, hSSs]
           ·rfl
           ·intro w' hA;clear hA;go_simp;try with_reducible rfl
           clear hCl hHeld
           intro hCl hHeld
           simp only [sA,sZ,sS] at hCl hHeld
           (try simp only [Act.put]);try simp only [sA,sZ,sS]
           refine rG 14 ?_ ?_ ?_ ?_ ?_ ?_ hCl hHeld ?_;rotate_left 2
           ·simp only [gA,gS,gZ]; exact rfl
           ·intro l w'; rw [hSSs, hSSs]
           ·rfl
           ·intro w' hA;clear hA;go_simp;try with_reducible rfl
           clear hCl hHeld
           intro hCl hHeld
           simp only [sA,sZ,sS] at hCl hHeld
           (try simp only [Act.put]);try simp only [sA,sZ,sS]
           refine rG 15 ?_ ?_ ?_ ?_ ?_ ?_ hCl hHeld ?_;rotate_left 2
           ·simp only [gA,gS,gZ]; exact rfl
           ·intro l w'; rw [hSSs, hSSs]
           ·rfl
           ·intro w' hA;clear hA;go_simp;try with_reducible rfl
           clear hCl hHeld
           intro hCl hHeld
           simp only [sA,sZ,sS] at hCl hHeld
           (try simp only [Act.put]);try simp only [sA,sZ,sS]
           refine rG 16 ?_ ?_ ?_ ?_ ?_ ?_ hCl hHeld ?_;rotate_left 2
           ·simp only [gA,gS,gZ]; exact rfl
           ·intro l w'; rw [hSSs, hSSs]
           ·rfl
           ·intro w' hA;clear hA;go_simp;try with_reducible rfl
           clear hCl hHeld
           intro hCl hHeld
           simp only [sA,sZ,sS] at hCl hHeld
           (try simp only [Act.put]);try simp only [sA,sZ,sS]
           refine rG 17 ?_ ?_ ?_ ?_ ?_ ?_ hCl hHeld ?_;rotate_left 2
           ·simp only [gA,gS,gZ]; exact rfl
           ·intro l w'; rw [hSSs, hSSs]
           ·rfl
           ·intro w' hA; obtain ⟨l, hl, hi, hSl⟩ := hA; have hSl := (hSSs _ _).1 hSl; obtain ⟨hz0, hz1⟩ := hSl; go_simp; try with_reducible rfl
           clear hCl hHeld
           intro hCl hHeld
           simp only [sA,sZ,sS] at hCl hHeld
           (try simp only [Act.put]);try simp only [sA,sZ,sS]
           refine rG 18 ?_ ?_ ?_ ?_ ?_ ?_ hCl hHeld ?_;rotate_left 2
           ·simp only [gA,gS,gZ]; exact rfl
           ·intro l w'; rw [hSSs, hSSs]
           ·rfl
           ·intro w' hA;clear hA;go_simp;try with_reducible rfl
           clear hCl hHeld
           intro hCl hHeld
           simp only [sA,sZ,sS] at hCl hHeld
           (try simp only [Act.put]);try simp only [sA,sZ,sS]
           refine rG 19 ?_ ?_ ?_ ?_ ?_ ?_ hCl hHeld ?_;rotate_left 2
           ·simp only [gA,gS,gZ]; exact rfl
           ·intro l w'; rw [hSSs, hSSs]
           ·rfl
           ·intro w' hA;clear hA;go_simp;try with_reducible rfl
           clear hCl hHeld
           intro hCl hHeld
           simp only [sA,sZ,sS] at hCl hHeld
           (try simp only [Act.put]);try simp only [sA,sZ,sS]
           clear hCl hHeld
           refine reg_callG 20 ?_ (by kernel_rfl) ?_ (fun K hK => ?_);rotate_left 1
           ·simp only [gA,gS,gZ]; exact rfl
           go_simp
           clear hx0 hx1 hup
           refine hK.out _ _ ((hSSs _ _).2 ⟨hy0, hy1⟩) ?_
           clear hK K
           (try simp only [Act.put]);try simp only [sA,sZ,sS]
           refine wpAnyG_done (by kernel_rfl) ?_ _
           refine NoPanic.normal ?_
           clear hSSs SSs
           go_wp2
           have hnn := HNN.out
           refine ⟨⟨_, _, _, _, _, _, _, _, _, _, _, _, _, _, _, _, _, _, _, _, _, _, _, _, _, _, _, _, _, _, _, _, _, _, ?_, rfl⟩, by simp [intOf]⟩
           exact ⟨1 + 1, by omega, by go_num, congrArg (Value.int .i64) (by omega), ⟨_, FIN.out.1⟩, FIN.out.2.1, FIN.out.2.2⟩
          ·obtain ⟨mn, hmn⟩ : ∃ mn : Int, (if (x : Int) < (z : Int) then (x : Int) else (z : Int)) = mn := ⟨_, rfl⟩
           obtain ⟨mx, hmx⟩ : ∃ mx : Int, (if (x : Int) > (z : Int) then (x : Int) else (z : Int)) = mx := ⟨_, rfl⟩
           have bmn : -1000000 ≤ mn ∧ mn ≤ 1000000 := by rw [← hmn]; split <;> omega
           have bmx : -1000000 ≤ mx ∧ mx ≤ 1000000 := by rw [← hmx]; split <;> omega
           have hmin : ∀ w : World, Sem.run Tryz.prog (Builtin.min_ #[3, 3] 3 #[.int .i64 (z : Int), .int .i64 (x : Int)]) w = Result.ok (Value.int .i64 mn) w := fun w => by rw [run_min_int2, hmn]
           have hmax : ∀ w : World, Sem.run Tryz.prog (Builtin.max_ #[3, 3] 3 #[.int .i64 (z : Int), .int .i64 (x : Int)]) w = Result.ok (Value.int .i64 mx) w := fun w => by rw [run_max_int2, hmx]
           have hwk : (IntKind.i64.wrap 3).tmod 3 = 0 := by decide
           obtain ⟨wm, F4, hup, hT4, hF4⟩ := fault_store HF3.out bmn bmx
           have hx0 := HBX3.out.c 2 _ rfl; have hx1 := HBX3.out.c 0 _ rfl
           have hbx4 := HBX3.out.turned hT4 (by omega)
           have hbw4 : Below fb w7 wm := Below.turned HBW3.out hT4 (Nat.le_refl _)
           have hy0 := hbx4.c 2 _ rfl; have hy1 := hbx4.c 0 _ rfl
           have FIN := Lib.hid (And.intro hF4 (And.intro hbx4 hbw4))
           clear hmn hmx bmn bmx hT4 hF4 hbx4 hbw4
           go_wp2_with fail
           obtain ⟨SSs, hSSs⟩ : ∃ S : Array Bool → World → Prop, ∀ l w', S l w' ↔ ((w'.cell? ⟨tb, 2, none⟩ = some (.int .i64 (z : Int))) ∧ (w'.cell? ⟨tb, 0, none⟩ = some (.int .i64 (x : Int)))) := ⟨_, fun _ _ => Iff.rfl⟩
           refine wp_region_noPanic ?_
           refine wp_region_G SSs 21 #[false, false, false, false, false, false, false, false, false, false, false, false, false, false, false, false, false, false, false, false, false] (by kernel_rfl) (by kernel_rfl) (by kernel_rfl) ((hSSs _ _).2 ⟨hx0, hx1⟩) (fun hCl hHeld => ?_)
           generalize wr.drew = wd at *
           refine rG 0 ?_ ?_ ?_ ?_ ?_ ?_ hCl hHeld ?_;rotate_left 2
           ·simp only [gA,gZ]; exact rfl
           ·intro l w'; rw [hSSs, hSSs]
           ·rfl
           ·intro w' hA;clear hA;go_simp;try with_reducible rfl
           clear hCl hHeld
           intro hCl hHeld
           simp only [List.setIfInBounds_toArray, List.set_cons_zero] at hCl hHeld
           (try simp only [Act.put]);try simp only [sA,sZ,sS]
           refine rG 1 ?_ ?_ ?_ ?_ ?_ ?_ hCl hHeld ?_;rotate_left 2
           ·simp only [gA,gS,gZ]; exact rfl
           ·intro l w'; rw [hSSs, hSSs]
           ·rfl
           ·intro w' hA;clear hA;go_simp;try with_reducible rfl
           clear hCl hHeld
           intro hCl hHeld
           simp only [sA,sZ,sS] at hCl hHeld
           (try simp only [Act.put]);try simp only [sA,sZ,sS]
           refine rG 2 ?_ ?_ ?_ ?_ ?_ ?_ hCl hHeld ?_;rotate_left 2
           ·simp only [gA,gS,gZ]; exact rfl
           ·intro l w'; rw [hSSs, hSSs]
           ·rfl
           ·intro w' hA;clear hA;go_simp;try with_reducible rfl
           clear hCl hHeld
           intro hCl hHeld
           simp only [sA,sZ,sS] at hCl hHeld
           (try simp only [Act.put]);try simp only [sA,sZ,sS]
           refine rG 3 ?_ ?_ ?_ ?_ ?_ ?_ hCl hHeld ?_;rotate_left 2
           ·simp only [gA,gS,gZ]; exact rfl
           ·intro l w'; rw [hSSs, hSSs]
           ·rfl
           ·intro w' hA; obtain ⟨l, hl, hi, hSl⟩ := hA; have hSl := (hSSs _ _).1 hSl; obtain ⟨hz0, hz1⟩ := hSl; go_simp; try with_reducible rfl
           clear hCl hHeld
           intro hCl hHeld
           simp only [sA,sZ,sS] at hCl hHeld
           (try simp only [Act.put]);try simp only [sA,sZ,sS]
           refine rG 4 ?_ ?_ ?_ ?_ ?_ ?_ hCl hHeld ?_;rotate_left 2
           ·simp only [gA,gS,gZ]; exact rfl
           ·intro l w'; rw [hSSs, hSSs]
           ·rfl
           ·intro w' hA;clear hA;go_simp;try with_reducible rfl
           clear hCl hHeld
           intro hCl hHeld
           simp only [sA,sZ,sS] at hCl hHeld
           (try simp only [Act.put]);try simp only [sA,sZ,sS]
           refine rG 5 ?_ ?_ ?_ ?_ ?_ ?_ hCl hHeld ?_;rotate_left 2
           ·simp only [gA,gS,gZ]; exact rfl
           ·intro l w'; rw [hSSs, hSSs]
           ·rfl
           ·intro w' hA;clear hA;go_simp;try with_reducible rfl
           clear hCl hHeld
           intro hCl hHeld
           simp only [sA,sZ,sS] at hCl hHeld
           (try simp only [Act.put]);try simp only [sA,sZ,sS]
           refine rG 6 ?_ ?_ ?_ ?_ ?_ ?_ hCl hHeld ?_;rotate_left 2
           ·simp only [gA,gS,gZ]; exact rfl
           ·intro l w'; rw [hSSs, hSSs]
           ·rfl
           ·intro w' hA;clear hA;go_simp;try with_reducible rfl
           clear hCl hHeld
           intro hCl hHeld
           simp only [sA,sZ,sS] at hCl hHeld
           (try simp only [Act.put]);try simp only [sA,sZ,sS]
           refine rG 7 ?_ ?_ ?_ ?_ ?_ ?_ hCl hHeld ?_;rotate_left 2
           ·simp only [gA,gS,gZ]; exact rfl
           ·intro l w'; rw [hSSs, hSSs]
           ·rfl
           ·intro w' hA;clear hA;go_simp;try with_reducible rfl
           clear hCl hHeld
           intro hCl hHeld
           simp only [sA,sZ,sS] at hCl hHeld
           (try simp only [Act.put]);try simp only [sA,sZ,sS]
           refine rG 8 ?_ ?_ ?_ ?_ ?_ ?_ hCl hHeld ?_;rotate_left 2
           ·simp only [gA,gS,gZ]; exact rfl
           ·intro l w'; rw [hSSs, hSSs]
           ·rfl
           ·intro w' hA; obtain ⟨l, hl, hi, hSl⟩ := hA; have hSl := (hSSs _ _).1 hSl; obtain ⟨hz0, hz1⟩ := hSl; go_simp; try with_reducible rfl
           clear hCl hHeld
           intro hCl hHeld
           simp only [sA,sZ,sS] at hCl hHeld
           (try simp only [Act.put]);try simp only [sA,sZ,sS]
           refine rG 9 ?_ ?_ ?_ ?_ ?_ ?_ hCl hHeld ?_;rotate_left 2
           ·simp only [gA,gS,gZ]; exact rfl
           ·intro l w'; rw [hSSs, hSSs]
           ·rfl
           ·intro w' hA;clear hA;go_simp;try with_reducible rfl
           clear hCl hHeld
           intro hCl hHeld
           simp only [sA,sZ,sS] at hCl hHeld
           (try simp only [Act.put]);try simp only [sA,sZ,sS]
           refine rG 10 ?_ ?_ ?_ ?_ ?_ ?_ hCl hHeld ?_;rotate_left 2
           ·simp only [gA,gS,gZ]; exact rfl
           ·intro l w'; rw [hSSs, hSSs]
           ·rfl
           ·intro w' hA;clear hA;go_simp;try with_reducible rfl
           clear hCl hHeld
           intro hCl hHeld
           simp only [sA,sZ,sS] at hCl hHeld
           (try simp only [Act.put]);try simp only [sA,sZ,sS]
           refine rG 11 ?_ ?_ ?_ ?_ ?_ ?_ hCl hHeld ?_;rotate_left 2
           ·simp only [gA,gS,gZ]; exact rfl
           ·intro l w'; rw [hSSs, hSSs]
           ·rfl
           ·intro w' hA;clear hA;go_simp;try with_reducible rfl
           clear hCl hHeld
           intro hCl hHeld
           simp only [sA,sZ,sS] at hCl hHeld
           (try simp only [Act.put]);try simp only [sA,sZ,sS]
           refine rG 12 ?_ ?_ ?_ ?_ ?_ ?_ hCl hHeld ?_;rotate_left 2
           ·simp only [gA,gS,gZ]; exact rfl
           ·intro l w'; rw [hSSs, hSSs]
           ·rfl
           ·intro w' hA; obtain ⟨l, hl, hi, hSl⟩ := hA; have hSl := (hSSs _ _).1 hSl; obtain ⟨hz0, hz1⟩ := hSl; go_simp; try with_reducible rfl
           clear hCl hHeld
           intro hCl hHeld
           simp only [sA,sZ,sS] at hCl hHeld
           (try simp only [Act.put]);try simp only [sA,sZ,sS]
           refine rG 13 ?_ ?_ ?_ ?_ ?_ ?_ hCl hHeld ?_;rotate_left 2
           ·simp only [gA,gS,gZ]; exact rfl
           ·intro l w'; rw [hSSs, hSSs]
           ·rfl
           ·intro w' hA;clear hA;go_simp;try with_reducible rfl
           clear hCl hHeld
           intro hCl hHeld
           simp only [sA,sZ,sS] at hCl hHeld
           (try simp only [Act.put]);try simp only [sA,sZ,sS]
           refine rG 14 ?_ ?_ ?_ ?_ ?_ ?_ hCl hHeld ?_;rotate_left 2
           ·simp only [gA,gS,gZ]; exact rfl
           ·intro l w'; rw [hSSs, hSSs]
           ·rfl
           ·intro w' hA;clear hA;go_simp;try with_reducible rfl
           clear hCl hHeld
           intro hCl hHeld
           simp only [sA,sZ,sS] at hCl hHeld
           (try simp only [Act.put]);try simp only [sA,sZ,sS]
           refine rG 15 ?_ ?_ ?_ ?_ ?_ ?_ hCl hHeld ?_;rotate_left 2
           ·simp only [gA,gS,gZ]; exact rfl
           ·intro l w'; rw [hSSs, hSSs]
           ·rfl
           ·intro w' hA;clear hA;go_simp;try with_reducible rfl
           clear hCl hHeld
           intro hCl hHeld
           simp only [sA,sZ,sS] at hCl hHeld
           (try simp only [Act.put]);try simp only [sA,sZ,sS]
           refine rG 16 ?_ ?_ ?_ ?_ ?_ ?_ hCl hHeld ?_;rotate_left 2
           ·simp only [gA,gS,gZ]; exact rfl
           ·intro l w'; rw [hSSs, hSSs]
           ·rfl
           ·intro w' hA;clear hA;go_simp;try with_reducible rfl
           clear hCl hHeld
           intro hCl hHeld
           simp only [sA,sZ,sS] at hCl hHeld
           (try simp only [Act.put]);try simp only [sA,sZ,sS]
           refine rG 17 ?_ ?_ ?_ ?_ ?_ ?_ hCl hHeld ?_;rotate_left 2
           ·simp only [gA,gS,gZ]; exact rfl
           ·intro l w'; rw [hSSs, hSSs]
           ·rfl
           ·intro w' hA; obtain ⟨l, hl, hi, hSl⟩ := hA; have hSl := (hSSs _ _).1 hSl; obtain ⟨hz0, hz1⟩ := hSl; go_simp; try with_reducible rfl
           clear hCl hHeld
           intro hCl hHeld
           simp only [sA,sZ,sS] at hCl hHeld
           (try simp only [Act.put]);try simp only [sA,sZ,sS]
           refine rG 18 ?_ ?_ ?_ ?_ ?_ ?_ hCl hHeld ?_;rotate_left 2
           ·simp only [gA,gS,gZ]; exact rfl
           ·intro l w'; rw [hSSs, hSSs]
           ·rfl
           ·intro w' hA;clear hA;go_simp;try with_reducible rfl
           clear hCl hHeld
           intro hCl hHeld
           simp only [sA,sZ,sS] at hCl hHeld
           (try simp only [Act.put]);try simp only [sA,sZ,sS]
           refine rG 19 ?_ ?_ ?_ ?_ ?_ ?_ hCl hHeld ?_;rotate_left 2
           ·simp only [gA,gS,gZ]; exact rfl
           ·intro l w'; rw [hSSs, hSSs]
           ·rfl
           ·intro w' hA;clear hA;go_simp;try with_reducible rfl
           clear hCl hHeld
           intro hCl hHeld
           simp only [sA,sZ,sS] at hCl hHeld
           (try simp only [Act.put]);try simp only [sA,sZ,sS]
           clear hCl hHeld
           refine reg_callG 20 ?_ (by kernel_rfl) ?_ (fun K hK => ?_);rotate_left 1
           ·simp only [gA,gS,gZ]; exact rfl
           go_simp
           clear hx0 hx1 hup
           refine hK.out _ _ ((hSSs _ _).2 ⟨hy0, hy1⟩) ?_
           clear hK K
           (try simp only [Act.put]);try simp only [sA,sZ,sS]
           refine wpAnyG_done (by kernel_rfl) ?_ _
           refine NoPanic.normal ?_
           clear hSSs SSs
           go_wp2
           have hnn := HNN.out
           refine ⟨⟨_, _, _, _, _, _, _, _, _, _, _, _, _, _, _, _, _, _, _, _, _, _, _, _, _, _, _, _, _, _, _, _, _, _, ?_, rfl⟩, by simp [intOf]⟩
           exact ⟨2 + 1, by omega, by go_num, congrArg (Value.int .i64) (by omega), ⟨_, FIN.out.1⟩, FIN.out.2.1, FIN.out.2.2⟩
        ·obtain rfl : i = 3 := by omega
         have FIN := Lib.hid (And.intro hF2 hbw)
         clear hF2 hbw hbx
         go_wp2
         exact ⟨⟨j + 1, by omega, by go_num, congrArg (Value.int .i64) (by omega), ⟨_, FIN.out.1⟩, FIN.out.2⟩, by simp [intOf]; omega⟩
      ·obtain rfl : j = 4 := by omega
       have hgl := HM.out.len
       obtain ⟨⟨ta, tb, tc⟩, h0⟩ : ∃ v, (gridT 2 1 bn)[0]? = some v := ⟨_, List.getElem?_eq_getElem (by omega)⟩
       have hz := HM.out.one _ (List.mem_of_getElem? h0)
       simp only [] at hz
       have hb7 : Below w7.heap.size w7 wr := by rw [HFB.out]; exact hbw
       have hpr : RowN wr (w.heap.size + 1) 24 2 (.slice (some ⟨gp, 0, none⟩) 6 gpc) 6 (ptsCells (gridP 2 1)) := (HROW.out.below HBT.out).below hb7
       have htr := HTR.out.below hb7
       have hbu := Build_any F (gridT 2 1 bn) ta tb tc fb gt 4 gtc gp 6 gpc (gridP 2 1) wr OK.out.good h0 hz (by omega) (by omega) OK.out.pts htr hF rfl (by omega) (by omega) HPS.out hpr.ptsC HM.out.some_ (by have := HM.out.few; omega) HM.out.ends
       have HBU := Lib.hid hbu; have HTRR := Lib.hid htr
       have HBWR := Lib.hid (HBW.out.trans ((HBT.out.trans (hb7.mono HBT.out.size)).mono HBW.out.size))
       have hgt := HGTL.out.1; have hsz5 := HBW.out.size
       clear hbu htr hpr hb7 hF hbw hz h0 hgl
       go_wp2_with fail
       refine HBU.out.mono ?_
       rintro e w9 ⟨mb, rfl, hbe, hb9⟩
       have hbs := HBWR.out.size
       have FIN := Lib.hid (And.intro (hbe.low hbs) (And.intro (HTRR.out.below hb9) (HBWR.out.trans (hb9.mono hbs))))
       clear hbe hb9
       go_wp2
       go_ret2
       exact ⟨mb, gt, gtc, F, rfl, FIN.out.1, FIN.out.2.1, by omega, FIN.out.2.2⟩
end Go.Proofs.YtnabdopnlinklaaGreat
