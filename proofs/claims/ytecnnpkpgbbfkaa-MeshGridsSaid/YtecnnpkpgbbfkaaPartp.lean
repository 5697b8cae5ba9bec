/-
 DERIVED: THE SHELF's CONTRACTS AT THIS DUMP, IN PLAIN WORDS (tools/lay-plain.mjs out of 'TrySortF.lean', which tools/lay-shelf.mjs wrote): THE SAME DECLARATIONS UNDER THE SAME NAMES: 'import', 'namespace', 'open', 'def', 'theorem' AND NOTHING ELSE: no command of the shelf's: FOR A HAND-IN. Each laying: the table of numbers ('.._ren') and one theorem, a field a fact of the dump's own or the kernel's comparison; each contract: ONE APPLICATION.
-/
import Derived.Shelf.SlGeneric
import Derived.Shelf.SlSortCmp.WholeK
import Derived.Shelf.SlSortCmp.NoneTotal
import Derived.Ground.SlsfProg
import Derived.Test.YtecnnpkpgbbfkaaProg
import Derived.Test.YtecnnpkpgbbfkaaParto
import Derived.Test.YtecnnpkpgbbfkaaPartn
namespace Go.Proofs
open Go.Shelf
def Try.mSortE_ren : Go.Shelf.Ren := ⟨fun | 6 => 45 | 15 => 57 | 14 => 56 | 28 => 70 | 29 => 71 | 20 => 62 | 21 => 63 | 22 => 64 | 23 => 65 | 24 => 66 | 25 => 67 | 26 => 68 | 27 => 69 | 46 => 74 | 47 => 75 | 48 => 76 | 49 => 77 | 50 => 78 | 57 => 84 | n => n, fun | 22 => 32 | 24 => 37 | 25 => 92 | 3 => 3 | 39 => 103 | 0 => 0 | 53 => 23 | 55 => 97 | 4 => 4 | 46 => 109 | 45 => 108 | 50 => 113 | 5 => 5 | 9 => 9 | 66 => 119 | 70 => 123 | 76 => 130 | 77 => 85 | n => n, fun | n => n⟩
theorem Try.mSortE : Go.Proofs.SlLaysF0.n6 Try.prog Try.mSortE_ren := {
 mixed := by kernel_rfl
 f6 := ⟨Try.f45.name, by decide, Try.func45.trans (congrArg some (by kernel_rfl))⟩
 f14 := ⟨Try.f56.name, by decide, Try.func56.trans (congrArg some (by kernel_rfl))⟩
 f15 := Try.func57.trans (congrArg some (by kernel_rfl))
 f20 := ⟨Try.f62.name, by decide, Try.func62.trans (congrArg some (by kernel_rfl))⟩
 f21 := ⟨Try.f63.name, by decide, Try.func63.trans (congrArg some (by kernel_rfl))⟩
 f22 := ⟨Try.f64.name, by decide, Try.func64.trans (congrArg some (by kernel_rfl))⟩
 f23 := ⟨Try.f65.name, by decide, Try.func65.trans (congrArg some (by kernel_rfl))⟩
 f24 := ⟨Try.f66.name, by decide, Try.func66.trans (congrArg some (by kernel_rfl))⟩
 f25 := ⟨Try.f67.name, by decide, Try.func67.trans (congrArg some (by kernel_rfl))⟩
 f26 := ⟨Try.f68.name, by decide, Try.func68.trans (congrArg some (by kernel_rfl))⟩
 f27 := ⟨Try.f69.name, by decide, Try.func69.trans (congrArg some (by kernel_rfl))⟩
 f28 := Try.func70.trans (congrArg some (by kernel_rfl))
 f29 := Try.func71.trans (congrArg some (by kernel_rfl))
 f46 := ⟨Try.f74.name, by decide, Try.func74.trans (congrArg some (by kernel_rfl))⟩
 f47 := Try.func75.trans (congrArg some (by kernel_rfl))
 f48 := Try.func76.trans (congrArg some (by kernel_rfl))
 f49 := ⟨Try.f77.name, by decide, Try.func77.trans (congrArg some (by kernel_rfl))⟩
 f50 := ⟨Try.f78.name, by decide, Try.func78.trans (congrArg some (by kernel_rfl))⟩
 f57 := ⟨Try.f84.name, by decide, Try.func84.trans (congrArg some (by kernel_rfl))⟩
 t0 := Try.underlying0
 a0 := Try.isAgg0
 z0 := Try.sizeOf0
 v0 := Try.zeroValue0
 t3 := Try.underlying3
 a3 := Try.isAgg3
 z3 := Try.sizeOf3
 v3 := Try.zeroValue3
 t4 := Try.underlying4
 a4 := Try.isAgg4
 z4 := Try.sizeOf4
 v4 := Try.zeroValue4
 t5 := Try.underlying5
 a5 := Try.isAgg5
 z5 := Try.sizeOf5
 v5 := Try.zeroValue5
 t9 := Try.underlying9
 a9 := Try.isAgg9
 z9 := Try.sizeOf9
 v9 := Try.zeroValue9
 t22 := Try.underlying32
 a22 := Try.isAgg32
 z22 := Try.sizeOf32
 v22 := Try.zeroValue32
 t25 := Try.underlying92
 a25 := Try.isAgg92
 z25 := Try.sizeOf92
 v25 := Try.zeroValue92
 t39 := Try.underlying103
 a39 := Try.isAgg103
 z39 := Try.sizeOf103
 v39 := Try.zeroValue103
 t45 := Try.underlying108
 a45 := Try.isAgg108
 z45 := Try.sizeOf108
 v45 := Try.zeroValue108
 t46 := Try.underlying109
 a46 := Try.isAgg109
 z46 := Try.sizeOf109
 v46 := Try.zeroValue109
 t50 := Try.underlying113
 a50 := Try.isAgg113
 z50 := Try.sizeOf113
 v50 := Try.zeroValue113
 t53 := Try.underlying23
 a53 := Try.isAgg23
 z53 := Try.sizeOf23
 v53 := Try.zeroValue23
 t55 := Try.underlying97
 a55 := Try.isAgg97
 z55 := Try.sizeOf97
 v55 := Try.zeroValue97
 t66 := Try.underlying119
 a66 := Try.isAgg119
 z66 := Try.sizeOf119
 v66 := Try.zeroValue119
 t70 := Try.underlying123
 a70 := Try.isAgg123
 z70 := Try.sizeOf123
 v70 := Try.zeroValue123
 t76 := Try.underlying130
 a76 := Try.isAgg130
 z76 := Try.sizeOf130
 v76 := Try.zeroValue130
 t77 := Try.underlying85
 a77 := Try.isAgg85
 z77 := Try.sizeOf85
 v77 := Try.zeroValue85 }
end Go.Proofs
/- mesh's edges: a row of edges is put in order. -/
namespace Go.Proofs.Ytecnnpkpgbbfkaa
open Go.RowKit Go.MagM Go.Shelf Go.Sort
theorem edge_one (e : EdgeM) : ∀ v ∈ e.cells, v.oneCell' = true := by
 intro v hv
 simp [EdgeM.cells] at hv
 rcases hv with rfl | rfl | rfl | rfl <;> rfl
theorem edge_holds {w : World} {g : Nat} {E : List EdgeM} (h : Box w g (edgeCells E)) : HoldsK EdgeM.cells 4 w g 0 E.toArray := by
 intro t ht
 rw [size_flatK] at ht
 have ht' : t < E.length * 4 := by simpa using ht
 obtain ⟨i, c, hc, rfl⟩ : ∃ i c, c < 4 ∧ t = i * 4 + c := ⟨t / 4, t % 4, Nat.mod_lt _ (by omega), by omega⟩
 have hi : i < E.length := by omega
 rw [get_flatK _ _ _ _ ht, Nat.zero_add, show (i * 4 + c) / 4 = i by omega, show (i * 4 + c) % 4 = c by omega, getElem!_pos E.toArray i (by simpa using hi)]
 have hcl : c < (E[i]).cells.length := hc
 have hu : (edgeCells E)[i * 4 + c]? = some ((E[i]).cells[c]) := by rw [edgeCells_get E i c _ (List.getElem?_eq_getElem hi) hc, List.getElem?_eq_getElem hcl]
 have e1 : (EdgeM.cells E.toArray[i])[c]! = (E[i]).cells[c] := by
  rw [getElem!_pos _ c hcl]; rfl
 show w.cell? _ = some (id (EdgeM.cells _)[c]!) ∧ _
 rw [id, e1]
 exact ⟨h.c _ _ hu, h.f _ _ hu⟩
theorem edge_box {w : World} {g : Nat} {d : Array EdgeM} (h : HoldsK EdgeM.cells 4 w g 0 d) : Box w g (edgeCells d.toList) := by
 have key : ∀ t u, (edgeCells d.toList)[t]? = some u → w.cell? ⟨g, t, none⟩ = some u ∧ w.frozen? ⟨g, t, none⟩ = false := by
  intro t u hu
  have ht := (List.getElem?_eq_some_iff.1 hu).1
  rw [edgeCells_len] at ht
  obtain ⟨i, c, hc, rfl⟩ : ∃ i c, c < 4 ∧ t = i * 4 + c := ⟨t / 4, t % 4, Nat.mod_lt _ (by omega), by omega⟩
  have hi : i < d.toList.length := by omega
  have hi' : i < d.size := by simpa using hi
  rw [edgeCells_get d.toList i c _ (List.getElem?_eq_getElem hi) hc] at hu
  have hcl : c < (EdgeM.cells d.toList[i]).length := hc
  rw [List.getElem?_eq_getElem hcl] at hu
  have := h.cell (i := i) (c := c) hi' hc
  rw [Nat.zero_add, getElem!_pos d i hi', getElem!_pos _ c (show c < (EdgeM.cells d[i]).length from hc)] at this
  have e : (EdgeM.cells d.toList[i])[c] = (EdgeM.cells d[i])[c] := by simp
  rw [e] at hu
  cases hu
  exact this
 exact ⟨fun t u hu => (key t u hu).1, fun t u hu => (key t u hu).2⟩
/-- A row of edges is put in order; but for its block all is as it was. -/
theorem edSort_any {g c : Nat} {E : List EdgeM} (w : World) (h : Box w g (edgeCells E)) (hg : g < w.heap.size) (hl : E.length ≤ 1000000) :
  Calls Try.prog 45 #[.slice (some ⟨g, 0, none⟩) E.length c, .func (.func 46) #[] #[]] w fun e w' => e = .returned (.tuple #[]) ∧ ∃ E' : List EdgeM, E'.length = E.length ∧ E'.Perm E ∧ (∀ (i j : Nat) (x y : EdgeM), i < j → E'[i]? = some x → E'[j]? = some y → ltE y x = false) ∧ Box w' g (edgeCells E') ∧ (∀ k, k < w.heap.size → k ≠ g → w'.heap[k]? = w.heap[k]?) ∧ Below g w w' := by
 have eg : ∀ args w, (callFunc 46 args).run Try.prog w = .ok (.enter 46 args) w := enters_of Try.func46 (by kernel_rfl) rfl
 have hH := edge_holds h
 have hcon := AnyQ.slices_SortFunc Try.mSortE 4 (fun w => by kernel_rfl) (fun w => by kernel_rfl) EdgeM.cells (fun _ => rfl) edge_one cmpE swoE 46 #[] g 0 c E.toArray w eg (fun m os dk _ x y => edgesCmp_any x y _) hH hg (by simp; omega)
 change Calls Try.prog 45 _ _ _ at hcon
 refine hcon.mono ?_
 rintro e w' ⟨rfl, d', n, os, hp, hs, rfl⟩
 have hsz : d'.size = E.length := by have := hp.1; simpa using this
 have hHo := holdsK_sortWorldK_c EdgeM.cells 4 w g 0 E.toArray d' n os hH hg (by simpa using hsz)
 have hsw : (putRowK EdgeM.cells 4 (Sort.ahead w n) g 0 d').heap.size = w.heap.size := by unfold putRowK Sort.putRow Sort.mapBlock Sort.ahead; simp
 have hk : ∀ k, k < w.heap.size → k ≠ g → (sortWorldK EdgeM.cells 4 w g 0 n d' os).heap[k]? = w.heap[k]? := by
  intro k hk hne
  show ((putRowK EdgeM.cells 4 (Sort.ahead w n) g 0 d').heap ++ os)[k]? = _
  rw [Array.getElem?_append_left (by omega)]
  unfold putRowK Sort.putRow Sort.mapBlock Sort.ahead
  simp only [Array.getElem?_modify]
  rw [if_neg (fun e => hne e.symm)]
 refine ⟨rfl, d'.toList, by simpa using hsz, ?_, ?_, edge_box hHo, hk, ⟨rfl, rfl, rfl, ?_, fun k hk2 => hk k (by omega) (by omega)⟩⟩
 ·have := hp.2.2
  rw [show E.toArray.size = d'.size by simpa using hsz.symm, Array.extract_size] at this
  rw [show E.toArray.extract 0 d'.size = E.toArray by rw [show d'.size = E.toArray.size by simpa using hsz, Array.extract_size]] at this
  simpa using this
 ·intro i j x y hij hx hy
  have hj := (List.getElem?_eq_some_iff.1 hy).1
  have := hs i j (Nat.zero_le _) hij (by simp at hj ⊢; omega)
  rw [ltE_is] at this
  rw [getElem!_pos d' i (by simp at hj; omega), getElem!_pos d' j (by simpa using hj)] at this
  obtain ⟨h1, rfl⟩ := List.getElem?_eq_some_iff.1 hx
  obtain ⟨h2, rfl⟩ := List.getElem?_eq_some_iff.1 hy
  simpa using this
 ·show w.heap.size ≤ ((putRowK EdgeM.cells 4 (Sort.ahead w n) g 0 d').heap ++ os).size
  rw [Array.size_append]; omega
end Go.Proofs.Ytecnnpkpgbbfkaa
/- mesh's All, for a range over it. -/
namespace Go.Proofs.Ytecnnpkpgbbfkaa
open Go.RowKit Go.MagM Go.Shelf
set_option maxRecDepth 100000 in
set_option maxHeartbeats 4000000 in
theorem All_any (p : Option Addr) (w : World) : Calls Try.prog 8 #[.pointer p] w fun e w' => e = .returned (.func (.func 25) #[] #[.pointer (some ⟨w.heap.size, 0, none⟩)]) ∧ w.alloc (.cells #[.pointer p] 25) = w' := by
 go_enter Try.func8, Try.ntmps8
 go_wp2
 go_ret
 exact ⟨rfl, rfl⟩
theorem all_stops (n : Nat) (hn : 1 ≤ n) (Bm : Nat) (Pb : Nat → Prop) {mb pb pc : Nat} {ta : Option Addr} {tc : Nat} {P : List (Int × Int)} {S : List TriM} (w : World) (hlt : ∀ b, Pb b → b < w.heap.size) (hm : MeshR w mb pb pc ta tc P S) (hin : MeshIn Pb mb pb ta) (hBm : w.cell? ⟨Bm, 0, none⟩ = some (.pointer (some ⟨mb, 0, none⟩))) (hPm : Pb Bm) :
  SeqStopsK Fence.wide n Try.prog 25 #[.pointer (some ⟨Bm, 0, none⟩)] (encA (S := S)) (KeepB Pb) (fun xs => xs.map (·.1) = realsK S S.length) (fun pre => pre.map (·.1) <+: realsK S S.length) S.length w := by
 intro l J Jx W hW hJ hJx hY h0
 have hcm : W.cell? ⟨Bm, 0, none⟩ = some (.pointer (some ⟨mb, 0, none⟩)) := (hW.cell (p := ⟨Bm, 0, none⟩) (hlt Bm hPm)).trans hBm
 refine (all1_any n hn l Bm Pb J Jx hY (fun pre W' q h => hJ pre W' (W'.drewN q) none h (grown_drewN W' q none) (fun r e => by cases e)) W (hm.below hW) hin hcm hPm h0).mono ?_
 rintro e W' ⟨he, h⟩
 refine ⟨he, ?_⟩
 rcases h with ⟨ys, h1, h2⟩ | ⟨pre, h1, h2⟩
 ·exact .inl ⟨ys, h1, h2⟩
 ·exact .inr ⟨pre, h1, h2⟩
end Go.Proofs.Ytecnnpkpgbbfkaa
