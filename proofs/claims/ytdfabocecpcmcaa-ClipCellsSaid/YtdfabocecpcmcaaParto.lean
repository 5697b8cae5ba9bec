/- From the form of the rows to the walks of layer 8: what a slice of points reads as. -/
import Derived.Test.YtdfabocecpcmcaaParti
import Derived.Test.YtdfabocecpcmcaaPartn
import Derived.Deep.Slices
import Derived.Test.YtdfabocecpcmcaaPartl
namespace Go.Proofs.Ytdfabocecpcmcaa
open Go.ChangeShapes Go.WideShapes Go.RowKit Go.MagM
theorem list2_of {l : List Value} (h : l.length = 2) : ∃ a b, l = [a, b] := by
  match l, h with
  | [a, b], _ => exact ⟨a, b, rfl⟩
set_option maxRecDepth 100000 in
/-- What a slice of points reads as. -/
theorem view_points {H : Type} {enc : TypeId × Value → H} {W : World} {b0 : Nat} {v : Value} {d : DataW H} {p : List MemPlace} (hv : Value.okWide Try.prog W .any b0 57 v)
    (h : DataW.Trod enc Try.prog W 0 (fun _ => true) true 57 v d p) :
    ∃ ao n c l, v = .slice ao n c ∧ l.length = n ∧ PtsAt W ao l := by
  obtain ⟨ao, n, c, rfl⟩ := okWide_slice Try.underlying57 hv
  obtain ⟨fuel, hf⟩ := h
  rcases Go.Deep.open_slice Try.underlying57 hf with ⟨hcs, _⟩ | ⟨a, len, cap, m, k, D, Pl, hcs, _, hlc, _, hm, _, hx⟩
  · simp [Value.cells] at hcs
    obtain ⟨rfl, rfl, rfl⟩ := hcs
    exact ⟨_, _, _, [], rfl, rfl, fun i x y hi => by simp at hi⟩
  · simp [Value.cells] at hcs
    obtain ⟨rfl, rfl, rfl⟩ := hcs
    simp only [if_true] at hm
    subst hm
    obtain ⟨ab, ao, as'⟩ := a
    have hs : 0 < n → as' = none := fun h0 => by
      obtain ⟨cs', h1, _⟩ := hx 0 (by omega)
      rw [ptCells] at h1
      obtain ⟨_, hlen, hcell⟩ := World.cells?_some h1
      obtain ⟨c0, c1, rfl⟩ := list2_of hlen
      have hsp := World.cell?_spot (hcell 0 (by omega))
      simpa [Addr.add] using hsp
    have each : ∀ i, i < n → ∃ q : Int × Int, as' = none ∧ W.cell? ⟨ab, ao + i * 2, none⟩ = some (.int .i64 q.1) ∧ W.cell? ⟨ab, ao + i * 2 + 1, none⟩ = some (.int .i64 q.2) := by
      intro i hi
      obtain ⟨cs', h1, h2⟩ := hx i (by omega)
      rw [ptCells] at h1
      obtain ⟨_, hlen, hcell⟩ := World.cells?_some h1
      obtain ⟨c0, c1, rfl⟩ := list2_of hlen
      obtain ⟨x, y, rfl, rfl⟩ := open_pt h2
      obtain rfl := hs (by omega)
      rw [addr_add] at hcell
      refine ⟨(x, y), rfl, ?_, ?_⟩
      · have := hcell 0 (by omega); rw [addr_add] at this; exact this
      · have := hcell 1 (by omega); rw [addr_add] at this; exact this
    obtain ⟨f, hfa⟩ := Go.Deep.choose_lt each
    refine ⟨_, _, _, (List.range n).map f, rfl, by simp, fun i x y hi => ?_⟩
    have hin : i < n := by have := (List.getElem?_eq_some_iff.1 hi).1; simpa using this
    have hq : f i = (x, y) := by
      rw [List.getElem?_map, List.getElem?_range hin] at hi
      simpa using hi
    obtain ⟨rfl, h1, h2⟩ := hfa i hin
    rw [hq] at h1 h2
    exact ⟨ab, ao, rfl, h1, h2⟩
end Go.Proofs.Ytdfabocecpcmcaa
/- Cells of points in a square, as the program cuts them; rows of points. Over no program but for the last part. -/
namespace Go.MagM
open Go.RowKit
/-- The cells of a row of points. -/
def ptRow : List (Int × Int) → List Value
  | [] => []
  | p :: t => .int .i64 p.1 :: .int .i64 p.2 :: ptRow t
theorem ptRow_len : ∀ l, (ptRow l).length = l.length * 2
  | [] => rfl
  | p :: t => by rw [ptRow, List.length_cons, List.length_cons, ptRow_len t, List.length_cons]; omega
theorem ptRow_app : ∀ l k, ptRow (l ++ k) = ptRow l ++ ptRow k
  | [], _ => rfl
  | p :: t, k => by rw [List.cons_append, ptRow, ptRow_app t k]; rfl
theorem ptRow_at : ∀ (l : List (Int × Int)) (i : Nat) (x y : Int), l[i]? = some (x, y) → (ptRow l)[i * 2]? = some (.int .i64 x) ∧ (ptRow l)[i * 2 + 1]? = some (.int .i64 y)
  | [], i, _, _, h => by simp at h
  | p :: t, 0, x, y, h => by simp at h; subst h; exact ⟨rfl, rfl⟩
  | p :: t, i + 1, x, y, h => by
    have := ptRow_at t i x y (by simpa using h)
    rw [ptRow, show (i + 1) * 2 = i * 2 + 1 + 1 by omega]
    simpa using this
theorem ptRow_mem : ∀ (l : List (Int × Int)) (u : Value), u ∈ ptRow l → ∃ x : Int, u = .int .i64 x
  | [], u, h => by cases h
  | p :: t, u, h => by
    rw [ptRow] at h
    rcases List.mem_cons.1 h with rfl | h
    · exact ⟨_, rfl⟩
    · rcases List.mem_cons.1 h with rfl | h
      · exact ⟨_, rfl⟩
      · exact ptRow_mem t u h
theorem ptRow_noWord (l : List (Int × Int)) : ∀ u ∈ ptRow l, NoWord u := by
  intro u hu; obtain ⟨x, rfl⟩ := ptRow_mem l u hu; exact noWordI2 x x _ (by simp)
theorem ptRow_one (l : List (Int × Int)) : ∀ u ∈ ptRow l, u.oneCell' = true := by
  intro u hu; obtain ⟨x, rfl⟩ := ptRow_mem l u hu; rfl
theorem ptRow_drop : ∀ (l : List (Int × Int)) (i : Nat), ptRow (l.drop i) = (ptRow l).drop (i * 2)
  | l, 0 => by simp
  | [], i + 1 => by simp [ptRow]
  | p :: t, i + 1 => by rw [List.drop_succ_cons, ptRow_drop t i, ptRow, show (i + 1) * 2 = i * 2 + 1 + 1 by omega]; rfl
theorem ptRow_take : ∀ (l : List (Int × Int)) (i : Nat), ptRow (l.take i) = (ptRow l).take (i * 2)
  | l, 0 => by simp [ptRow]
  | [], i + 1 => by simp [ptRow]
  | p :: t, i + 1 => by rw [List.take_succ_cons, ptRow, ptRow_take t i, ptRow, show (i + 1) * 2 = i * 2 + 1 + 1 by omega]; rfl
theorem RowN.ptsAt {w : World} {base : Nat} {e : TypeId} {v : Value} {n : Nat} {l : List (Int × Int)} (h : RowN w base e 2 v n (ptRow l)) : ∃ ao c, v = .slice ao n c ∧ PtsAt w ao l := by
  have hl := h.1
  rw [ptRow_len] at hl
  rcases h.2 with ⟨rfl, rfl⟩ | ⟨g, cap, cur, rfl, _⟩
  · obtain rfl : l = [] := List.eq_nil_of_length_eq_zero (by omega)
    exact ⟨_, _, rfl, fun i x y hi => by simp at hi⟩
  · refine ⟨_, _, rfl, fun i x y hi => ⟨g, 0, rfl, ?_, ?_⟩⟩
    · rw [Nat.zero_add]; exact h.cells rfl _ _ (ptRow_at l i x y hi).1
    · rw [Nat.zero_add]; exact h.cells rfl _ _ (ptRow_at l i x y hi).2
section
variable {P : Program}
/-- append, of nothing too. -/
theorem run_append_any (w : World) (base : Nat) (t ty e : TypeId) (i : TypeInfo) (z : Value) (size bytes : Nat) (ht : P.underlying t = some (.slice e)) (hi : P.info? e = some i) (hz : i.zero = some z)
    (hsize : i.size = size) (hby : i.bytes = bytes) (hzs : z.cells.size = size) (hzw : ∀ u ∈ z.cells.toList, NoWord u)
    (v : Value) (n : Nat) (xs : List Value) (hrow : RowN w base e size v n xs)
    (a : Addr) (m c : Nat) (news : List Value) (hl : news.length = m * size) (hnews : ∀ j u, news[j]? = some u → w.cell? (a.add j) = some u) (h1 : ∀ u ∈ news, u.oneCell' = true) (hnw : ∀ u ∈ news, NoWord u)
    (h63 : n + m ≤ maxLen) (hbytes : (n + m) * bytes ≤ 140737488355328) (hbase : base ≤ w.heap.size) :
    ∃ v' w', (Builtin.append_ #[t, t] ty #[v, .slice (some a) m c]).run P w = .ok v' w' ∧ RowN w' base e size v' (n + m) (xs ++ news) ∧ w.grownBy w' v.ownBlock ∧ Kept w w' := by
  by_cases hm : m = 0
  · subst hm
    obtain rfl : news = [] := List.eq_nil_of_length_eq_zero (by omega)
    refine ⟨v, w, ?_, by rw [List.append_nil]; exact hrow, ⟨rfl, rfl, rfl, Nat.le_refl _, fun k _ _ => rfl⟩, Kept.refl w⟩
    rcases hrow.2 with ⟨rfl, rfl⟩ | ⟨g, cap, cur, rfl, _, _, hnc, _⟩
    · simp [Builtin.append_, run_underlying ht, sizeOf, typeInfo, hi, Builtin.lenOf, Builtin.firstCells, loadCells, loadCellsFrom]
    · simp [Builtin.append_, run_underlying ht, sizeOf, typeInfo, hi, Builtin.lenOf, Builtin.firstCells, loadCells, loadCellsFrom, storeCells, hnc]
  · exact run_append_row w base t ty e i z size bytes ht hi hz hsize hby hzs hzw v n xs hrow a m c news (by omega) hl hnews h1 hnw h63 hbytes hbase
end
end Go.MagM
namespace Go.Proofs.Ytdfabocecpcmcaa
open Go.RowKit Go.MagM
theorem ptQ_inj {p q : Int × Int} (h : ptQ p = ptQ q) : p = q := by
  have h1 := Rat.intCast_inj.1 (congrArg Prod.fst h)
  have h2 := Rat.intCast_inj.1 (congrArg Prod.snd h)
  exact Prod.ext h1 h2
/-- The others: all but the one at i. -/
def othersI (D : List (Int × Int)) (i : Nat) : List (Int × Int) := D.take i ++ D.drop (i + 1)
theorem others_len {D : List (Int × Int)} {i : Nat} (hi : i < D.length) : (othersI D i).length = D.length - 1 := by unfold othersI; simp; omega
theorem others_filter : ∀ (D : List (Int × Int)) (i : Nat) (q : Int × Int), D.Nodup → D[i]? = some q → D.filter (fun p => decide (p ≠ q)) = othersI D i
  | [], i, q, _, h => by simp at h
  | p :: t, 0, q, hn, h => by
    simp at h; subst h
    have hp := (List.nodup_cons.1 hn).1
    simp only [othersI, List.take_zero, List.nil_append, List.drop_succ_cons, List.drop_zero]
    rw [List.filter_cons_of_neg (by simp)]
    refine List.filter_eq_self.2 fun a ha => ?_
    refine decide_eq_true fun e => hp ?_
    subst e; exact ha
  | p :: t, i + 1, q, hn, h => by
    have hp := (List.nodup_cons.1 hn).1
    have ht := (List.nodup_cons.1 hn).2
    have hq : t[i]? = some q := by simpa using h
    have hpq : p ≠ q := fun e => hp (by subst e; exact List.mem_of_getElem? hq)
    rw [List.filter_cons_of_pos (by simpa using hpq), others_filter t i q ht hq]
    rfl
theorem others_ne {D : List (Int × Int)} {i : Nat} {q : Int × Int} (hn : D.Nodup) (h : D[i]? = some q) : ∀ o, o ∈ othersI D i → o ≠ q := by
  intro o ho
  rw [← others_filter D i q hn h, List.mem_filter] at ho
  exact of_decide_eq_true ho.2
theorem others_mem {D : List (Int × Int)} {i : Nat} : ∀ o, o ∈ othersI D i → o ∈ D := by
  intro o ho
  unfold othersI at ho
  rcases List.mem_append.1 ho with h | h
  · exact List.mem_of_mem_take h
  · exact List.mem_of_mem_drop h
theorem cell_other {D : List (Int × Int)} {i : Nat} {q : Int × Int} (hn : D.Nodup) (h : D[i]? = some q) : cellH q (othersI D i) = otherH (D.map ptQ) (ptQ q) := by
  rw [← others_filter D i q hn h]
  unfold cellH otherH
  rw [List.filter_map, List.map_map]
  have e : D.filter (fun p => decide (p ≠ q)) = D.filter ((fun p => decide (p ≠ ptQ q)) ∘ ptQ) := by
    refine List.filter_congr fun p _ => ?_
    simp only [Function.comp]
    by_cases hp : p = q
    · subst hp; simp
    · have : ptQ p ≠ ptQ q := fun e => hp (ptQ_inj e)
      simp [hp, this]
  rw [e]; rfl
/-- The cell of the point at i. -/
def cellL (D : List (Int × Int)) (i : Nat) : List (Rat × Rat) := foldQ (cellH (D.getD i (0, 0)) (othersI D i)) (boxQ ((20 : Int) : Rat))
theorem cellL_at {D : List (Int × Int)} {i : Nat} {q : Int × Int} (h : D[i]? = some q) : cellL D i = foldQ (cellH q (othersI D i)) (boxQ ((20 : Int) : Rat)) := by
  unfold cellL; rw [List.getD_eq_getElem?_getD, h]; rfl
def sumI (D : List (Int × Int)) : Nat → Rat
  | 0 => ((0 : Int) : Rat)
  | i + 1 => sumI D i + areaQ (cellL D i)
theorem sumQ_app : ∀ a b : List Rat, sumQ (a ++ b) = sumQ a + sumQ b
  | [], b => by rw [List.nil_append, sumQ, Rat.zero_add]
  | x :: t, b => by rw [List.cons_append, sumQ, sumQ, sumQ_app t b]; grind
theorem sumI_is {D : List (Int × Int)} (hn : D.Nodup) : ∀ i, i ≤ D.length → sumI D i = sumQ (((D.take i).map ptQ).map (cellA (D.map ptQ) (boxQ ((20 : Int) : Rat))))
  | 0, _ => by simp [sumI, sumQ]
  | i + 1, hi => by
    obtain ⟨q, hq⟩ : ∃ q, D[i]? = some q := ⟨_, List.getElem?_eq_getElem (by omega)⟩
    have e : D.take (i + 1) = D.take i ++ [q] := by
      rw [List.take_succ_eq_append_getElem (List.getElem?_eq_some_iff.1 hq).1, (List.getElem?_eq_some_iff.1 hq).2]
    rw [sumI, sumI_is hn i (by omega), e, List.map_append, List.map_append, sumQ_app, cellL_at hq, cell_other hn hq]
    congr 1
    simp only [List.map_cons, List.map_nil, sumQ]
    rw [Rat.add_zero]; rfl
theorem sumI_all {D : List (Int × Int)} (hn : D.Nodup) (h0 : D ≠ []) : sumI D D.length = ((3200 : Int) : Rat) := by
  rw [sumI_is hn _ (Nat.le_refl _), List.take_length]
  have hp := (box_poly (n := 20) (by omega) (by show 20 < B; unfold B; omega)).1
  have hd : (D.map ptQ).Nodup := List.Pairwise.map ptQ (fun a b h e => h (ptQ_inj e)) hn
  rw [cells_fill (D.map ptQ) (boxQ ((20 : Int) : Rat)) (by simpa using h0) hd hp, box_area]
  have e1 : ((20 : Int) : Rat) = 20 := rfl
  have e2 : ((3200 : Int) : Rat) = 3200 := rfl
  rw [e1, e2]; grind
theorem cellL_in {D : List (Int × Int)} (hn : D.Nodup) (hr : ∀ q, q ∈ D → (0 ≤ q.1 ∧ q.1 ≤ 15) ∧ (0 ≤ q.2 ∧ q.2 ≤ 15)) {i : Nat} {q : Int × Int} (h : D[i]? = some q) (s : Rat × Rat) :
    InL (cellL D i) s ↔ InL (boxQ ((20 : Int) : Rat)) s ∧ ∀ o, o ∈ othersI D i → dQ s (ptQ q) ≤ dQ s (ptQ o) := by
  have hb := (box_poly (n := 20) (by omega) (by show 20 < B; unfold B; omega)).1
  have h20 : (0 : Rat) < ((20 : Int) : Rat) := by decide
  have e20 : ((20 : Int) : Rat) = 20 := rfl
  obtain ⟨⟨x0, x1⟩, y0, y1⟩ := hr q (List.mem_of_getElem? h)
  have a0 : (0 : Rat) ≤ (q.1 : Rat) := by exact_mod_cast x0
  have a1 : (q.1 : Rat) ≤ 15 := by have := Rat.intCast_le_intCast.2 x1; exact this
  have b0 : (0 : Rat) ≤ (q.2 : Rat) := by exact_mod_cast y0
  have b1 : (q.2 : Rat) ≤ 15 := by have := Rat.intCast_le_intCast.2 y1; exact this
  have ne : cellL D i ≠ [] := by
    rw [cellL_at h, cell_other hn h]
    refine cell_ne hb ?_ ?_ ?_
    · rw [box_in h20, e20]; unfold ptQ; simp only []; grind
    · rw [box_in h20, e20]; unfold ptQ; simp only []; grind
    · rw [box_in h20, e20]; unfold ptQ; simp only []; grind
  rw [cellL_at h] at ne ⊢
  have hc : Conv (boxQ ((20 : Int) : Rat)) := box_conv h20
  have hh : ∀ k, k ∈ cellH q (othersI D i) → Half0 k := by
    intro k hk
    unfold cellH at hk
    obtain ⟨o, ho, rfl⟩ := List.mem_map.1 hk
    exact near_half (fun e => others_ne hn h o ho (ptQ_inj e).symm)
  rw [((fold_reg _ _ hh hc).1 ne).2 s]
  unfold Reg
  refine and_congr_right fun _ => ?_
  unfold cellH
  constructor
  · intro k o ho
    exact (near_d (ptQ q) (ptQ o) s).1 (k _ (List.mem_map_of_mem ho))
  · intro k x hx
    obtain ⟨o, ho, rfl⟩ := List.mem_map.1 hx
    exact (near_d (ptQ q) (ptQ o) s).2 (k o ho)
theorem cellL_poly {D : List (Int × Int)} (hn : D.Nodup) {i : Nat} {q : Int × Int} (h : D[i]? = some q) : Conv0 (cellL D i) := by
  have hb := (box_poly (n := 20) (by omega) (by show 20 < B; unfold B; omega)).1
  rw [cellL_at h]
  refine fold_conv (fun k hk => ?_) hb
  unfold cellH at hk
  obtain ⟨o, ho, rfl⟩ := List.mem_map.1 hk
  exact near_half (fun e => others_ne hn h o ho (ptQ_inj e).symm)
theorem fold_len : ∀ (hs : List (Rat × Rat × Rat)) (l : List (Rat × Rat)), (∀ h, h ∈ hs → Half0 h) → Conv0 l → (foldQ hs l).length ≤ l.length + 2 * hs.length
  | [], l, _, _ => by simp [foldQ]
  | h :: t, l, h0, hl => by
    have e : foldQ (h :: t) l = foldQ t (clipQ h.1 h.2.1 h.2.2 l) := rfl
    have ih := fold_len t _ (fun k hk => h0 k (by simp [hk])) (clip_conv0 (A := h.1) (B := h.2.1) (C := h.2.2) hl)
    have := clip_len (h0 h (by simp)) (C := h.2.2) hl
    rw [e, List.length_cons]; omega
theorem cellL_len {D : List (Int × Int)} (hn : D.Nodup) {i : Nat} {q : Int × Int} (h : D[i]? = some q) : (cellL D i).length ≤ 4 + 2 * D.length := by
  have hb := (box_poly (n := 20) (by omega) (by show 20 < B; unfold B; omega)).1
  have hk : ∀ k, k ∈ cellH q (othersI D i) → Half0 k := by
    intro k hk
    unfold cellH at hk
    obtain ⟨o, ho, rfl⟩ := List.mem_map.1 hk
    exact near_half (fun e => others_ne hn h o ho (ptQ_inj e).symm)
  have := fold_len _ _ hk hb
  rw [← cellL_at h] at this
  have e : (cellH q (othersI D i)).length = D.length - 1 := by unfold cellH; rw [List.length_map, others_len (List.getElem?_eq_some_iff.1 h).1]
  have e4 : (boxQ ((20 : Int) : Rat)).length = 4 := rfl
  omega
/-- Points in a slice: p[:i], p[i+1:]. -/
theorem cut_ahead {g n c i : Nat} (hi : i < n) (hc : n ≤ c) : ∀ w : World, (Instr.slice 57 (Value.slice (some ⟨g, 0, none⟩) n c) none (some (Value.int .i64 (i : Int))) none).run Try.prog w = Result.ok (Value.slice (some ⟨g, 0, none⟩) i c) w := by
  intro w
  have h2 : ¬ c < i := by omega
  simp [Instr.slice, Instr.sliceBounds, Instr.sliceBound, go_sem, h2, Addr.add]
theorem cut_behind {g n c i : Nat} (hi : i < n) (hc : n ≤ c) : ∃ bo : Addr, (i + 1 < n → bo = ⟨g, (i + 1) * 2, none⟩) ∧ ∀ w : World, (Instr.slice 57 (Value.slice (some ⟨g, 0, none⟩) n c) (some (Value.int .i64 ((i : Int) + 1))) none none).run Try.prog w = Result.ok (Value.slice (some bo) (n - (i + 1)) (c - (i + 1))) w := by
  have h9 : ¬ (i : Int) + 1 < 0 := by omega
  have h6 : ((i : Int) + 1).toNat = i + 1 := by omega
  have h7 : (i : Int) + 1 ≤ (n : Int) := by omega
  by_cases h3 : c = i + 1
  · have h8 : c - (i + 1) = 0 := by omega
    refine ⟨⟨g, 0, none⟩, fun h => by omega, fun w => ?_⟩
    simp [Instr.slice, Instr.sliceBounds, Instr.sliceBound, go_sem, h3, h7, h6, h9, Addr.add]
  · refine ⟨⟨g, (i + 1) * 2, none⟩, fun _ => rfl, fun w => ?_⟩
    simp [Instr.slice, Instr.sliceBounds, Instr.sliceBound, go_sem, h3, h7, h6, h9, Addr.add]
end Go.Proofs.Ytdfabocecpcmcaa
/- The statement ClipCells, walked. -/
namespace Go.Proofs.Ytdfabocecpcmcaa
open Go.RowKit Go.MagM
theorem info_pt : (Try.prog.info? 50).map (fun i => (i.zero, i.size, i.bytes)) = some (some (.agg #[.int .i64 0, .int .i64 0]), 2, 16) := by kernel_rfl
theorem cand_mask (x : Int) (k : Nat) (hk : k < 9223372036854775808) : ∃ y : Int, 0 ≤ y ∧ y ≤ (k : Int) ∧ bits .and .i64 x (k : Int) = y := by
  have h1 : (BitVec.ofInt 64 (k : Int)).toNat = k := by
    rw [BitVec.ofInt_natCast, BitVec.toNat_ofNat]; exact Nat.mod_eq_of_lt (by omega)
  have h2 : (BitVec.ofInt 64 x).toNat &&& k ≤ k := Nat.and_le_right
  refine ⟨(((BitVec.ofInt 64 x).toNat &&& k : Nat) : Int), by omega, by omega, ?_⟩
  show IntKind.i64.wrap ((BitVec.ofInt 64 x &&& BitVec.ofInt 64 (k : Int)).toNat : Int) = _
  rw [BitVec.toNat_and, h1, IntKind.wrap_i64]
  omega
theorem box20s (w : World) : Calls Try.prog 31 #[.int .i64 20] w fun e w' => ∃ b o c, e = .returned (.slice (some ⟨b, o, none⟩) 4 c) ∧ SpotsR w' (some ⟨b, o, none⟩) 7 (boxQ ((20 : Int) : Rat)) ∧ Below w.heap.size w w' := by
  refine (box20n w).mono fun e w' g => ?_
  obtain ⟨ao, c, h1, h2, _, h3⟩ := g
  obtain ⟨b, o, _, _, _, _, _, _, _, _, _, _, _, _, _, _, hao, _⟩ := h2 0 _ _ rfl
  subst hao
  exact ⟨b, o, c, h1, h2, h3⟩
theorem _root_.Go.MagM.PtsAt.drew {w : World} {ao : Option Addr} {l : List (Int × Int)} (h : PtsAt w ao l) : PtsAt w.drew ao l := h
theorem _root_.Go.MagM.PtsAt.setBox {w : World} {ao : Option Addr} {l : List (Int × Int)} (h : PtsAt w ao l) {g : Nat} {vs : List Value} (_hb : Box w g vs) (_hv : ∀ u ∈ vs, NoWord u) (xs : List Value) (_hl : vs.length = xs.length) (hne : ∀ a, ao = some a → a.block ≠ g) : PtsAt (Go.MagM.setAll w g 0 xs) ao l := by
  intro i x y hi
  obtain ⟨b, o, h0, h1, h2⟩ := h i x y hi
  have hbg : b ≠ g := hne _ h0
  have far : ∀ (ys : List Value) (k : Nat) (w : World), (Go.MagM.setAll w g k ys).cell? ⟨b, o + i * 2, none⟩ = w.cell? ⟨b, o + i * 2, none⟩ ∧ (Go.MagM.setAll w g k ys).cell? ⟨b, o + i * 2 + 1, none⟩ = w.cell? ⟨b, o + i * 2 + 1, none⟩ := by
    intro ys
    induction ys with
    | nil => exact fun k w => ⟨rfl, rfl⟩
    | cons y t ih =>
      intro k w
      have e : ∀ j, (w.setCell ⟨g, k, none⟩ y).cell? ⟨b, j, none⟩ = w.cell? ⟨b, j, none⟩ := fun j => World.cell?_setCell_other _ _ _ _ (by intro k; injection k with h1; first | exact hbg h1 | exact hbg h1.symm)
      exact ⟨(ih (k + 1) _).1.trans (e _), (ih (k + 1) _).2.trans (e _)⟩
  exact ⟨b, o, h0, (far xs 0 w).1.trans h1, (far xs 0 w).2.trans h2⟩
theorem box20_poly : Poly (boxQ ((20 : Int) : Rat)) := box_poly (by omega) (by show 20 < B; unfold B; omega)
def AnsG (w w' : World) (e : Ending) (L n : Nat) (l : List (Rat × Rat)) (m : Nat) : Prop := ∃ ao c, e = .returned (.slice ao n c) ∧ SpotsR w' ao L l ∧ (∀ a, ao = some a → m < a.block) ∧ Below w.heap.size w w'
theorem _root_.Go.MagM.AnsM.g {w w' : World} {e : Ending} {L n : Nat} {l : List (Rat × Rat)} {m : Nat} (h : AnsM w w' e L n l) (hm : m < w.heap.size) : AnsG w w' e L n l m := by
  obtain ⟨ao, c, h1, h2, h3, h4⟩ := h; exact ⟨ao, c, h1, h2, fun a ha => Nat.lt_of_lt_of_le hm (h3 a ha), h4⟩
/-- All are points that the statement makes. -/
def Rng (D : List (Int × Int)) : Prop := ∀ q, q ∈ D → (0 ≤ q.1 ∧ q.1 ≤ 15) ∧ (0 ≤ q.2 ∧ q.2 ≤ 15)
theorem Rng.inP {D : List (Int × Int)} (h : Rng D) {q : Int × Int} (hq : q ∈ D) : InP q.1 ∧ InP q.2 := by
  have := h q hq; unfold InP; omega
theorem take_snoc {α : Type} {l : List α} {k : Nat} {p : α} (h : l[k]? = some p) : l.take (k + 1) = l.take k ++ [p] := by
  rw [List.take_succ_eq_append_getElem (List.getElem?_eq_some_iff.1 h).1, (List.getElem?_eq_some_iff.1 h).2]
theorem le_cmp (p q : Rat) : qcmp p q ≤ 0 ↔ p ≤ q := by
  rcases qcmp_cases p q with ⟨h, e⟩ | ⟨h, e⟩ | ⟨h, e⟩ <;> rw [e] <;> constructor <;> intro k <;> first | grind | (exact absurd k (by decide)) | decide
theorem dist_dC (s p : Rat × Rat) : distQ s.1 s.2 p.1 p.2 = dQ s p := by unfold distQ dQ; grind
theorem row_cap {w : World} {base : Nat} {e : TypeId} {size g n c : Nat} {xs : List Value} (h : RowN w base e size (.slice (some ⟨g, 0, none⟩) n c) n xs) : n ≤ c := by
  rcases h.2 with ⟨h, _⟩ | ⟨_, cap, _, h, _, _, h4, _⟩
  · cases h
  · simp at h; omega
theorem row_zero {w : World} {base : Nat} {e : TypeId} {size n c : Nat} {a : Addr} {xs : List Value} (h : RowN w base e size (.slice (some a) n c) n xs) : ∃ g, a = ⟨g, 0, none⟩ := by
  rcases h.2 with ⟨h, _⟩ | ⟨g, cap, _, h, _⟩
  · cases h
  · simp at h; exact ⟨g, h.1⟩
/-- The cells of p[i+1:]. -/
theorem behind_cells {w : World} {base : Nat} {e : TypeId} {g n c i : Nat} {D : List (Int × Int)} {bo : Addr} (h : RowN w base e 2 (.slice (some ⟨g, 0, none⟩) n c) n (ptRow D)) (hD : D.length = n) (hb : i + 1 < n → bo = ⟨g, (i + 1) * 2, none⟩) : ∀ j u, (ptRow (D.drop (i + 1)))[j]? = some u → w.cell? (bo.add j) = some u := by
  intro j u hu
  have hlt := (List.getElem?_eq_some_iff.1 hu).1
  rw [ptRow_len, List.length_drop] at hlt
  rw [hb (by omega), addr_add]
  rw [ptRow_drop, List.getElem?_drop] at hu
  exact h.cells rfl _ _ hu
theorem ahead_cells {w : World} {base : Nat} {e : TypeId} {g n c i : Nat} {D : List (Int × Int)} (h : RowN w base e 2 (.slice (some ⟨g, 0, none⟩) n c) n (ptRow D)) : ∀ j u, (ptRow (D.take i))[j]? = some u → w.cell? ((⟨g, 0, none⟩ : Addr).add j) = some u := by
  intro j u hu
  have hlt := (List.getElem?_eq_some_iff.1 hu).1
  rw [addr_add, Nat.zero_add]
  rw [ptRow_take, List.getElem?_take] at hu
  split at hu
  · exact h.cells rfl _ _ hu
  · cases hu
set_option maxHeartbeats 4000000 in
theorem ClipCells_long {sxm : Bool} {sxo : Option Addr} {sxn sxc : Nat} {sxp : Option Addr} {sxk sxd : Nat} {sym : Bool} {syo : Option Addr} {syn syc : Nat} {syp : Option Addr} {syk syd : Nat} (Lsx Lsy : Nat) (Xsx Xsy : Int) (Dsx Dsy : Nat) (lo : Option Addr) (n lc : Nat) (h7 : 7 < n) (w : World) (fsx_0 : FD w (.agg #[.bool sxm, .slice sxo sxn sxc, .slice sxp sxk sxd]) Lsx Xsx Dsx) (fsy_0 : FD w (.agg #[.bool sym, .slice syo syn syc, .slice syp syk syd]) Lsy Xsy Dsy) :
    Calls Try.prog 6 #[.slice lo n lc, .agg #[.bool sxm, .slice sxo sxn sxc, .slice sxp sxk sxd, .bool sym, .slice syo syn syc, .slice syp syk syd]] w fun e w' => e = .returned (.bool true) ∧ Below w.heap.size w w' := by
  have hB_0 := Below.refl w.heap.size w
  have _ := fsx_0; have _ := fsy_0
  have hl1 : (7 : Int) < (n : Int) := by omega
  obtain ⟨w1, hw1, ps_0, hb1, hs1⟩ := new_box w (w.heap.size) rfl [.bool sxm, .slice sxo sxn sxc, .slice sxp sxk sxd, .bool sym, .slice syo syn syc, .slice syp syk syd] 42
  have hb1' : Below w.heap.size w w1 := hb1.mono (by omega)
  clear hb1
  have hB_1 := hB_0.trans (hb1'.mono hB_0.size)
  have fsx_1 := fsx_0.below hb1'
  have fsy_1 := fsy_0.below hb1'
  clear hb1' hB_0 fsx_0 fsy_0
  go_enter Try.func6, Try.ntmps6
  go_wp2_with fail
  refine (cfit_any _).mono ?_
  rintro e w2 ⟨rfl, hb2⟩
  have hB_2 := hB_1.trans (hb2.mono hB_1.size)
  have fsx_2 := fsx_1.below hb2
  have fsy_2 := fsy_1.below hb2
  have ps_1 := ps_0.below hb2
  clear hb2 hB_1 fsx_1 fsy_1 ps_0
  go_wp2
  go_ret
  exact ⟨rfl, hB_2⟩
set_option maxRecDepth 100000 in
set_option maxHeartbeats 64000000 in
theorem ClipCells_w {sxm : Bool} {sxo : Option Addr} {sxn sxc : Nat} {sxp : Option Addr} {sxk sxd : Nat} {sym : Bool} {syo : Option Addr} {syn syc : Nat} {syp : Option Addr} {syk syd : Nat} (Lsx Lsy : Nat) (Xsx Xsy : Int) (Dsx Dsy : Nat) (lo : Option Addr) (n lc : Nat) (l : List (Int × Int)) (hn : l.length = n) (h7 : n ≤ 7) (w : World) (fsx_0 : FD w (.agg #[.bool sxm, .slice sxo sxn sxc, .slice sxp sxk sxd]) Lsx Xsx Dsx) (fsy_0 : FD w (.agg #[.bool sym, .slice syo syn syc, .slice syp syk syd]) Lsy Xsy Dsy) (hraw : PtsAt w lo l) :
    Calls Try.prog 6 #[.slice lo n lc, .agg #[.bool sxm, .slice sxo sxn sxc, .slice sxp sxk sxd, .bool sym, .slice syo syn syc, .slice syp syk syd]] w fun e w' => e = .returned (.bool true) ∧ Below w.heap.size w w' := by
  have hB_0 := Below.refl w.heap.size w
  have RW := Lib.hid hraw; have RFX := Lib.hid fsx_0; have RFY := Lib.hid fsy_0; have HNN := Lib.hid hn; clear hraw hn
  obtain ⟨i0, hi, hz0, hz1, hz2⟩ := info_parts info_pt
  have HI := Lib.hid hi; have HZ0 := Lib.hid hz0; have HZ1 := Lib.hid hz1; have HZ2 := Lib.hid hz2
  clear hi hz0 hz1 hz2
  have hl1 : ¬ (7 : Int) < (n : Int) := by omega
  obtain ⟨w1, hw1, ps_0, hb1, hs1⟩ := new_box w (w.heap.size) rfl [.bool sxm, .slice sxo sxn sxc, .slice sxp sxk sxd, .bool sym, .slice syo syn syc, .slice syp syk syd] 42
  have hb1' : Below w.heap.size w w1 := hb1.mono (by omega)
  clear hb1
  have hB_1 := hB_0.trans (hb1'.mono hB_0.size)
  have fsx_1 := fsx_0.below hb1'
  have fsy_1 := fsy_0.below hb1'
  clear hb1' hB_0 fsx_0 fsy_0
  go_enter Try.func6, Try.ntmps6
  go_wp2_with fail
  refine (cfit_any _).mono ?_
  rintro e w2 ⟨rfl, hb2⟩
  have hB_2 := hB_1.trans (hb2.mono hB_1.size)
  have fsx_2 := fsx_1.below hb2
  have fsy_2 := fsy_1.below hb2
  have ps_1 := ps_0.below hb2
  clear hb2 hB_1 fsx_1 fsy_1 ps_0
  clear fsx_2 fsy_2
  go_wp2
  go_loopw [5, 27] (fun pv iv wr => ∃ k dn : Nat, ∃ D : List (Int × Int), ∃ u : Value, k ≤ n ∧ iv = .int .i64 k ∧ u = pv ∧ RowN wr (w.heap.size + 1) 50 2 u dn (ptRow D) ∧ D.length = dn ∧ D.Nodup ∧ Rng D ∧ dn ≤ k ∧ Below w.heap.size w wr ∧ Box wr w.heap.size [.bool sxm, .slice sxo sxn sxc, .slice sxp sxk sxd, .bool sym, .slice syo syn syc, .slice syp syk syd]) (fun _ iv _ => n - (intOf iv).toNat)
  case atStart => exact ⟨0, 0, [], _, Nat.zero_le _, rfl, rfl, RowN.nil _ _ _ _, rfl, List.nodup_nil, fun q hq => (by cases hq), Nat.le_refl _, hB_2, ps_1⟩
  case round =>
    obtain ⟨k, dn, D, u, hk, rfl, hu, row_0, hD, hnd, hrg, hdk, hB_0, ps_0⟩ := hrel
    subst hu
    obtain ⟨wo, rfl⟩ : ∃ wo : World, wo = wr := ⟨_, rfl⟩
    have HD := Lib.hid hD; have HND := Lib.hid hnd; have HRG := Lib.hid hrg; clear hD hnd hrg
    obtain ⟨uo, uc, rfl, hpts⟩ := row_0.ptsAt
    have hul := row_0.lt
    have hws := hB_0.size
    by_cases hlt : k < n
    · obtain ⟨⟨q0, q1⟩, hlk⟩ : ∃ q, l[k]? = some q := ⟨_, List.getElem?_eq_getElem (by rw [HNN.out]; omega)⟩
      obtain ⟨bq, oq, hao, ee0, ee1⟩ := (RW.out.below hB_0) k q0 q1 hlk
      subst hao
      obtain ⟨x0, xa, xb, exx⟩ : ∃ y : Int, 0 ≤ y ∧ y ≤ 15 ∧ bits .and .i64 q0 15 = y := cand_mask q0 15 (by omega)
      obtain ⟨x1, ya, yb, exy⟩ : ∃ y : Int, 0 ≤ y ∧ y ≤ 15 ∧ bits .and .i64 q1 15 = y := cand_mask q1 15 (by omega)
      clear hlk
      have hl1ps := ps_0.lt
      have hl1B := hB_0.size
      obtain ⟨w3, hw3, pq_0, hb3, hs3⟩ := new_box wo (wo.heap.size) rfl [.int .i64 q0, .int .i64 q1] 50
      have hb3' : Below wo.heap.size wo w3 := hb3.mono (by omega)
      clear hb3
      have hB_1 := hB_0.trans (hb3'.mono hB_0.size)
      have ps_1 := ps_0.below hb3'
      have row_1 := row_0.below hb3'
      clear hb3' hB_0 ps_0 row_0
      obtain ⟨pqe0, pqe1, pqe2, pqe3⟩ := pq_0.open2
      skip
      clear pqe0 pqe1 pqe2 pqe3
      have pqe := pq_0.c
      have pqe0 := pq_0.c 0 _ rfl; have pqe1 := pq_0.c 1 _ rfl; clear pqe
      have hl2ps := ps_1.lt
      have hl2pq := pq_0.lt
      have hl2B := hB_1.size
      obtain ⟨w4, hw4, px_0, hb4, hs4⟩ := new_box w3 (wo.heap.size + 1) hs3 [.int .i64 x0, .int .i64 x1] 50
      have hb4' : Below w3.heap.size w3 w4 := hb4.mono (by omega)
      clear hb4
      have hB_2 := hB_1.trans (hb4'.mono hB_1.size)
      have ps_2 := ps_1.below hb4'
      have row_2 := row_1.below hb4'
      have pq_1 := pq_0.below hb4'
      clear hb4' hB_1 ps_1 row_1 pq_0
      go_wp2
      try rw [hw3]
      try rw [hw4]
      clear ee0 ee1 pqe0 pqe1
      have HBX := Lib.hid hB_2; have PSX := Lib.hid ps_2; have PXX := Lib.hid px_0; have ROWX := Lib.hid row_2; have hpx := px_0.lt; have hbx := hB_2.size
      clear ps_2 px_0 row_2 pq_1 hB_2
      have hX_0 := Below.refl w4.heap.size w4
      have hlx : wo.heap.size ≤ w4.heap.size := by omega
      go_loopw [9, 40] (fun tv jv wr => ∃ j : Nat, ∃ t : Bool, j ≤ dn ∧ jv = .int .i64 j ∧ tv = .bool t ∧ (t = true ↔ (x0, x1) ∈ D.take j) ∧ Below w4.heap.size w4 wr) (fun _ jv _ => dn - (intOf jv).toNat)
      case atStart => exact ⟨0, false, Nat.zero_le _, rfl, rfl, ⟨fun h => (by cases h), fun h => (by simp at h)⟩, hX_0⟩
      case round =>
        obtain ⟨j, t, hj, rfl, rfl, ht, hX_0⟩ := hrel
        have HTT := Lib.hid ht; clear ht
        by_cases hjl : j < dn
        · obtain ⟨⟨o0, o1⟩, hlj⟩ : ∃ q, D[j]? = some q := ⟨_, List.getElem?_eq_getElem (by rw [HD.out]; omega)⟩
          have hB_0 := HBX.out.trans (hX_0.mono HBX.out.size)
          obtain ⟨uo2, uc2, hue, hpt2⟩ := (ROWX.out.below hX_0).ptsAt
          simp only [Value.slice.injEq, true_and] at hue
          obtain ⟨rfl, rfl⟩ := hue
          obtain ⟨ba, oa, hao, ee0, ee1⟩ := hpt2 j o0 o1 hlj
          subst hao
          have htk := take_snoc hlj
          have HTK := Lib.hid htk; clear htk hlj hpt2
          have px_0 := PXX.out.below hX_0
          have hl1px := px_0.lt
          have hl1B := hB_0.size
          obtain ⟨w5, hw5, po_0, hb5, hs5⟩ := new_box wr (wr.heap.size) rfl [.int .i64 o0, .int .i64 o1] 50
          have hb5' : Below wr.heap.size wr w5 := hb5.mono (by omega)
          clear hb5
          have hX_1 := hX_0.trans (hb5'.mono hX_0.size)
          have hB_1 := hB_0.trans (hb5'.mono hB_0.size)
          have px_1 := px_0.below hb5'
          clear hb5' hX_0 hB_0 px_0
          cases t
          · obtain ⟨poe0, poe1, poe2, poe3⟩ := po_0.open2
            obtain ⟨pxe0, pxe1, pxe2, pxe3⟩ := px_1.open2
            by_cases he : o0 = x0 ∧ o1 = x1
            · have HE := Lib.hid he
              have nm : ∀ w : World, (if o0 = x0 then if o1 = x1 then Result.ok (Next.value (Value.bool true)) w else Result.ok (Next.value (Value.bool false)) w else Result.ok (Next.value (Value.bool false)) w) = Result.ok (Next.value (Value.bool true)) w := fun w => by rw [if_pos he.1, if_pos he.2]
              clear he
              go_wp2
              refine ⟨⟨j + 1, true, by omega, by go_num, rfl, ?_, hX_1⟩, by simp [intOf]; omega⟩
              exact ⟨fun _ => by rw [HTK.out, HE.out.1, HE.out.2]; simp, fun _ => rfl⟩
            · have HE := Lib.hid he
              have nm : ∀ w : World, (if o0 = x0 then if o1 = x1 then Result.ok (Next.value (Value.bool true)) w else Result.ok (Next.value (Value.bool false)) w else Result.ok (Next.value (Value.bool false)) w) = Result.ok (Next.value (Value.bool false)) w := fun w => by
                by_cases h1 : o0 = x0
                · by_cases h2 : o1 = x1
                  · exact absurd ⟨h1, h2⟩ he
                  · rw [if_pos h1, if_neg h2]
                · rw [if_neg h1]
              clear he
              go_wp2
              refine ⟨⟨j + 1, false, by omega, by go_num, rfl, ?_, hX_1⟩, by simp [intOf]; omega⟩
              have hnot : (x0, x1) ∈ D.take (j + 1) → false = true := by
                intro h
                rw [HTK.out] at h
                rcases List.mem_append.1 h with h1 | h1
                · exact HTT.out.2 h1
                · simp at h1; exact absurd ⟨h1.1.symm, h1.2.symm⟩ HE.out
              exact ⟨fun h => (by cases h), fun h => (hnot h)⟩
          · go_wp2
            refine ⟨⟨j + 1, true, by omega, by go_num, rfl, ⟨fun _ => ?_, fun _ => rfl⟩, hX_1⟩, by simp [intOf]; omega⟩
            rw [HTK.out]; exact List.mem_append_left _ (HTT.out.1 rfl)
        · obtain rfl : j = dn := by omega
          have htk : D.take j = D := by rw [← HD.out]; exact List.take_length
          have htt := HTT.out
          rw [htk] at htt
          have HTM := Lib.hid htt; clear htt htk
          have hB_0 := HBX.out.trans (hX_0.mono HBX.out.size)
          have ps_0 := PSX.out.below hX_0; have px_0 := PXX.out.below hX_0; have row_0 := ROWX.out.below hX_0
          have hrl := row_0.lt
          cases t
          · have pxe0 := px_0.c 0 _ rfl; have pxe1 := px_0.c 1 _ rfl
            have hl1ps := ps_0.lt
            have hl1px := px_0.lt
            have hl1B := hB_0.size
            obtain ⟨w5, hw5, pz_0, hb5, hs5⟩ := new_box wr (wr.heap.size) rfl [.int .i64 x0, .int .i64 x1] 50
            have hb5' : Below wr.heap.size wr w5 := hb5.mono (by omega)
            clear hb5
            have hX_1 := hX_0.trans (hb5'.mono hX_0.size)
            have hB_1 := hB_0.trans (hb5'.mono hB_0.size)
            have ps_1 := ps_0.below hb5'
            have px_1 := px_0.below hb5'
            have row_1 := row_0.below hb5'
            clear hb5' hX_0 hB_0 ps_0 px_0 row_0
            have hzps := ps_1.lt
            have hzpx := px_1.lt
            obtain ⟨v1, wa, hrun, rown, hgrow, hkept⟩ := run_append_row (P := Try.prog) w5 (w.heap.size + 1) 57 57 50 i0 (.agg #[.int .i64 0, .int .i64 0]) 2 16 (by kernel_rfl) HI.out HZ0.out HZ1.out HZ2.out rfl (noWordI2 _ _) _ j _ row_1 ⟨wr.heap.size, 0, none⟩ 1 1 [.int .i64 x0, .int .i64 x1] (by omega) rfl pz_0.news (by intro u hu; simp at hu; rcases hu with rfl | rfl <;> rfl) (noWordI2 _ _) (by unfold maxLen; omega) (by omega) (by have := hB_1.size; omega)
            go_wp2_with (refine wpList_append_row rfl _ _ 57 rfl rfl rfl hrun ?_)
            clear row_1 pxe0 pxe1
            have hB_2 := hB_1.grown hgrow (by have := hB_1.size; omega) (fun k hk => by have := hrl k hk; omega)
            have ps_2 := ps_1.grown hgrow (fun e => by have := hrl _ e; omega) ps_1.lt
            clear hB_1 ps_1
            have hno : (x0, x1) ∉ D := fun h => by have := HTM.out.2 h; cases this
            refine ⟨⟨k + 1, j + 1, D ++ [(x0, x1)], _, by omega, by go_num, rfl, ?_, by rw [List.length_append, HD.out]; rfl, ?_, ?_, by omega, hB_2, ps_2⟩, by simp [intOf]; omega⟩
            · rw [ptRow_app]; exact rown
            · rw [List.nodup_append]
              refine ⟨HND.out, by simp, fun p hp q hq e => ?_⟩
              simp at hq
              subst hq
              exact hno (e ▸ hp)
            · intro q hq
              rcases List.mem_append.1 hq with h | h
              · exact HRG.out q h
              · simp at h; subst h; exact ⟨⟨xa, xb⟩, ya, yb⟩
          · go_wp2
            exact ⟨⟨k + 1, j, D, _, by omega, by go_num, rfl, row_0, HD.out, HND.out, HRG.out, by omega, hB_0, ps_0⟩, by simp [intOf]; omega⟩
    · obtain rfl : k = n := by omega
      have fsx_0 := RFX.out.below hB_0; have fsy_0 := RFY.out.below hB_0
      have hdn7 : dn ≤ 7 := by omega
      clear hpts
      obtain ⟨pse0, pse1, pse2, pse3, pse4, pse5, pse6, pse7, pse8, pse9, pse10, pse11⟩ := ps_0.open6
      go_wp2_with fail
      refine (stame_any Lsx Lsy Xsx Xsy Dsx Dsy _ fsx_0 fsy_0).mono ?_
      rintro e w3 ⟨m1x, o1x, n1x, c1x, p1x, k1x, d1x, m1y, o1y, n1y, c1y, p1y, k1y, d1y, rfl, f1x_0, f1y_0, hb3⟩
      clear pse0 pse1 pse2 pse3 pse4 pse5 pse6 pse7 pse8 pse9 pse10 pse11
      have hB_1 := hB_0.trans (hb3.mono hB_0.size)
      have ps_1 := ps_0.below hb3
      have row_1 := row_0.below hb3
      have fsx_1 := fsx_0.below hb3
      have fsy_1 := fsy_0.below hb3
      clear hb3 hB_0 ps_0 row_0 fsx_0 fsy_0
      obtain ⟨pse0, pse1, pse2, pse3, pse4, pse5, pse6, pse7, pse8, pse9, pse10, pse11⟩ := ps_1.open6
      clear fsx_1 fsy_1
      clear pse0 pse1 pse2 pse3 pse4 pse5 pse6 pse7 pse8 pse9 pse10 pse11
      obtain ⟨sf1a, sf1b, sf1c, sf1d, sf1e, sf1f, sf1g, sf1h, sf1i, sf1j, sf1k, sf1l⟩ := ps_1.open6
      obtain ⟨sg1a, sg1b, sg1c, sg1d, sg1e, sg1f, sg1g, sg1h, sg1i, sg1j⟩ := Box.put6 ps_1 (.bool m1x) (.slice o1x n1x c1x) (.slice p1x k1x d1x) (.bool m1y) (.slice o1y n1y c1y)
      have hB_2 := below_setAll hB_1 (g := w.heap.size) (by omega) [.bool m1x, .slice o1x n1x c1x, .slice p1x k1x d1x, .bool m1y, .slice o1y n1y c1y, .slice p1y k1y d1y]
      have row_2 := RowN.farFrom (g' := w.heap.size) (fun g hg => by have h1 := row_1.lt g hg; first | omega | (have h2 := hul g hg; omega)) [.bool m1x, .slice o1x n1x c1x, .slice p1x k1x d1x, .bool m1y, .slice o1y n1y c1y, .slice p1y k1y d1y] 0 row_1
      have f1x_1 := f1x_0.setAll ps_1 (noWord6 _ _ _ _ _ _ _ _ _ _ _ _ _ _) [.bool m1x, .slice o1x n1x c1x, .slice p1x k1x d1x, .bool m1y, .slice o1y n1y c1y, .slice p1y k1y d1y] rfl
      have f1y_1 := f1y_0.setAll ps_1 (noWord6 _ _ _ _ _ _ _ _ _ _ _ _ _ _) [.bool m1x, .slice o1x n1x c1x, .slice p1x k1x d1x, .bool m1y, .slice o1y n1y c1y, .slice p1y k1y d1y] rfl
      have ps_2 := ps_1.setAll [.bool m1x, .slice o1x n1x c1x, .slice p1x k1x d1x, .bool m1y, .slice o1y n1y c1y, .slice p1y k1y d1y] rfl
      simp only [setAll, Nat.zero_add, Nat.reduceAdd] at hB_2 ps_2 row_2 f1x_1 f1y_1
      go_wp2_with fail
      clear sf1a sf1b sf1c sf1d sf1e sf1f sf1g sf1h sf1i sf1j sf1k sf1l sg1a sg1b sg1c sg1d sg1e sg1f sg1g sg1h sg1i sg1j hB_1 row_1 f1x_0 f1y_0 ps_1
      generalize (World.setCell (World.setCell (World.setCell (World.setCell (World.setCell (World.setCell w3 ⟨w.heap.size, 0, none⟩ (.bool m1x)) ⟨w.heap.size, 1, none⟩ (.slice o1x n1x c1x)) ⟨w.heap.size, 2, none⟩ (.slice p1x k1x d1x)) ⟨w.heap.size, 3, none⟩ (.bool m1y)) ⟨w.heap.size, 4, none⟩ (.slice o1y n1y c1y)) ⟨w.heap.size, 5, none⟩ (.slice p1y k1y d1y)) = w4 at *
      go_wp2_with fail
      refine (fOf_any 0 (by omega) (by omega) _).mono ?_
      rintro e w5 ⟨m4, o4, n4, c4, p4, k4, d4, rfl, f4_0, hb5⟩
      have hB_3 := hB_2.trans (hb5.mono hB_2.size)
      have ps_3 := ps_2.below hb5
      have row_3 := row_2.below hb5
      have f1x_2 := f1x_1.below hb5
      have f1y_2 := f1y_1.below hb5
      clear hb5 hB_2 ps_2 row_2 f1x_1 f1y_1
      have hrow4 := row_3.lt
      have hl1ps := ps_3.lt
      have hl1B := hB_3.size
      obtain ⟨w6, hw6, pm_0, hb6, hs6⟩ := new_box w5 (w5.heap.size) rfl [.bool m4, .slice o4 n4 c4, .slice p4 k4 d4] 28
      have hb6' : Below w5.heap.size w5 w6 := hb6.mono (by omega)
      clear hb6
      have hB_4 := hB_3.trans (hb6'.mono hB_3.size)
      have ps_4 := ps_3.below hb6'
      have row_4 := row_3.below hb6'
      have f1x_3 := f1x_2.below hb6'
      have f1y_3 := f1y_2.below hb6'
      have f4_1 := f4_0.below hb6'
      clear hb6' hB_3 ps_3 row_3 f1x_2 f1y_2 f4_0
      go_wp2
      try rw [hw6]
      have hpm := pm_0.lt
      have hpsl := ps_4.lt
      have hulm : ∀ g, (Value.slice uo dn uc).ownBlock = some g → g < w5.heap.size := fun g hg => (hrow4 g hg).2
      clear hs6
      go_loopw [63] (fun iv wr => ∃ i : Nat, i ≤ dn ∧ iv = .int .i64 i ∧ Below w.heap.size w wr ∧ Box wr w.heap.size [.bool m1x, .slice o1x n1x c1x, .slice p1x k1x d1x, .bool m1y, .slice o1y n1y c1y, .slice p1y k1y d1y] ∧ RF wr (.agg #[.bool m1x, .slice o1x n1x c1x, .slice p1x k1x d1x]) 1 (tameQ Xsx Dsx) ∧ RF wr (.agg #[.bool m1y, .slice o1y n1y c1y, .slice p1y k1y d1y]) 1 (tameQ Xsy Dsy) ∧ RowN wr (w.heap.size + 1) 50 2 (.slice uo dn uc) dn (ptRow D) ∧ w5.heap.size < wr.heap.size ∧ ∃ m5 o5 n5 c5 p5 k5 d5, Box wr (w5.heap.size) [.bool m5, .slice o5 n5 c5, .slice p5 k5 d5] ∧ RF wr (.agg #[.bool m5, .slice o5 n5 c5, .slice p5 k5 d5]) (1 + i * (1 + (4 + 2 * 7) * ((7 + 7 + 2 + (7 + 7 + 2) + 2) + 2) + 2)) (sumI D i)) (fun iv _ => dn - (intOf iv).toNat)
      case atStart => exact ⟨0, Nat.zero_le _, rfl, hB_4, ps_4, f1x_3, f1y_3, row_4, hpm, _, _, _, _, _, _, _, pm_0, f4_1⟩
      case round =>
        obtain ⟨i, hi, rfl, hB_0, ps_0, f1x_0, f1y_0, row_0, hgmw, m5, o5, n5, c5, p5, k5, d5, pm_0, f5_0⟩ := hrel
        obtain ⟨wc, rfl⟩ : ∃ wc : World, wc = wr := ⟨_, rfl⟩
        by_cases hil : i < dn
        · obtain ⟨⟨q0, q1⟩, hlq⟩ : ∃ q, D[i]? = some q := ⟨_, List.getElem?_eq_getElem (by rw [HD.out]; omega)⟩
          obtain ⟨uo2, uc2, hue, hpt2⟩ := row_0.ptsAt
          simp only [Value.slice.injEq, true_and] at hue
          obtain ⟨rfl, rfl⟩ := hue
          obtain ⟨ba, oa, hao, ee0, ee1⟩ := hpt2 i q0 q1 hlq
          subst hao
          obtain ⟨gp, hgp⟩ := row_zero row_0
          injection hgp with hg1 hg2
          subst hg1 hg2
          rw [Nat.zero_add] at ee0 ee1
          have hcap := row_cap row_0
          have hbp := hulm ba rfl
          have hsl1 := cut_ahead (g := ba) hil hcap
          obtain ⟨bo, hbo, hsl2⟩ := cut_behind (g := ba) hil hcap
          have HBO := Lib.hid hbo; clear hbo
          have hwi : IntKind.i64.wrap ((i : Int) + 1) = (i : Int) + 1 := by rw [IntKind.wrap_i64]; omega
          have hmem := List.mem_of_getElem? hlq
          obtain ⟨iq0, iq1⟩ := HRG.out.inP hmem
          have HQ0 := Lib.hid iq0; have HQ1 := Lib.hid iq1; have HLQ := Lib.hid hlq
          have hbi1 : (0 : Int) ≤ (i : Int) := by omega
          have hbi2 : (i : Int) < (dn : Int) := by omega
          clear hlq hpt2 hmem iq0 iq1
          have hl1ps := ps_0.lt
          have hl1pm := pm_0.lt
          have hl1B := hB_0.size
          obtain ⟨w7, hw7, pq_0, hb7, hs7⟩ := new_box wc (wc.heap.size) rfl [.int .i64 q0, .int .i64 q1] 50
          have hb7' : Below wc.heap.size wc w7 := hb7.mono (by omega)
          clear hb7
          have hB_1 := hB_0.trans (hb7'.mono hB_0.size)
          have ps_1 := ps_0.below hb7'
          have f1x_1 := f1x_0.below hb7'
          have f1y_1 := f1y_0.below hb7'
          have row_1 := row_0.below hb7'
          have pm_1 := pm_0.below hb7'
          have f5_1 := f5_0.below hb7'
          clear hb7' hB_0 ps_0 f1x_0 f1y_0 row_0 pm_0 f5_0
          go_wp2
          try rw [hw7]
          clear ee0 ee1
          have hB_2 := hB_1.drew'
          have ps_2 := ps_1.drew
          have f1x_2 := f1x_1.drew
          have f1y_2 := f1y_1.drew
          have row_2 := row_1.drew
          have pm_2 := pm_1.drew
          have f5_2 := f5_1.drew
          have pq_1 := pq_0.drew
          clear hB_1 ps_1 f1x_1 f1y_1 row_1 pm_1 f5_1 pq_0
          refine wp_region_noPanic ?_
          refine wp_region_held_drew (S := fun w' => True) (by kernel_rfl) (trivial) (fun hHeld => ?_)
          generalize w7.drew = w8 at *
          have hb24 : w.heap.size + 1 ≤ w8.heap.size := by have := ps_2.lt; omega
          have hg24 : w5.heap.size < w8.heap.size := pm_2.lt
          have hu24 := row_2.lt ba rfl
          have hq24 := pq_1.lt
          refine reg_take 0 ?_ ?_ ?_ (by kernel_rfl) (by kernel_rfl) (by kernel_rfl) (fun _ _ _ h => h) ?_ ?_ (by assumption) ?_
          rotate_left 2
          · simp only [List.getElem?_toArray, List.getElem?_cons_zero]; exact rfl
          · rfl
          · intro w hSw; (try dsimp only at hSw); go_simp; try with_reducible rfl
          try simp only [Act.put]
          try simp only [List.setIfInBounds_toArray, List.set_cons_zero, List.set_cons_succ]
          refine reg_take 1 ?_ ?_ ?_ (by kernel_rfl) (by kernel_rfl) (by kernel_rfl) (fun _ _ _ h => h) ?_ ?_ (by assumption) ?_
          rotate_left 2
          · simp only [List.getElem?_toArray, List.getElem?_cons_succ, List.getElem?_cons_zero]; exact rfl
          · rfl
          · intro w hSw; (try dsimp only at hSw); go_simp; try with_reducible rfl
          try simp only [Act.put]
          try simp only [List.setIfInBounds_toArray, List.set_cons_zero, List.set_cons_succ]
          refine reg_take 2 ?_ ?_ ?_ (by kernel_rfl) (by kernel_rfl) (by kernel_rfl) (fun _ _ _ h => h) ?_ ?_ (by assumption) ?_
          rotate_left 2
          · simp only [List.getElem?_toArray, List.getElem?_cons_succ, List.getElem?_cons_zero]; exact rfl
          · rfl
          · intro w hSw; (try dsimp only at hSw); go_simp; try with_reducible rfl
          try simp only [Act.put]
          try simp only [List.setIfInBounds_toArray, List.set_cons_zero, List.set_cons_succ]
          refine reg_take 4 ?_ ?_ ?_ (by kernel_rfl) (by kernel_rfl) (by kernel_rfl) (fun _ _ _ h => h) ?_ ?_ (by assumption) ?_
          rotate_left 2
          · simp only [List.getElem?_toArray, List.getElem?_cons_succ, List.getElem?_cons_zero]; exact rfl
          · rfl
          · intro w hSw; (try dsimp only at hSw); go_simp; try with_reducible rfl
          try simp only [Act.put]
          try simp only [List.setIfInBounds_toArray, List.set_cons_zero, List.set_cons_succ]
          refine reg_take 5 ?_ ?_ ?_ (by kernel_rfl) (by kernel_rfl) (by kernel_rfl) (fun _ _ _ h => h) ?_ ?_ (by assumption) ?_
          rotate_left 2
          · simp only [List.getElem?_toArray, List.getElem?_cons_succ, List.getElem?_cons_zero]; exact rfl
          · rfl
          · intro w hSw; (try dsimp only at hSw); go_simp; try with_reducible rfl
          try simp only [Act.put]
          try simp only [List.setIfInBounds_toArray, List.set_cons_zero, List.set_cons_succ]
          refine reg_take 6 ?_ ?_ ?_ (by kernel_rfl) (by kernel_rfl) (by kernel_rfl) (fun _ _ _ h => h) ?_ ?_ (by assumption) ?_
          rotate_left 2
          · simp only [List.getElem?_toArray, List.getElem?_cons_succ, List.getElem?_cons_zero]; exact rfl
          · rfl
          · intro w hSw; (try dsimp only at hSw); go_simp; try with_reducible rfl
          try simp only [Act.put]
          try simp only [List.setIfInBounds_toArray, List.set_cons_zero, List.set_cons_succ]
          refine reg_take 7 ?_ ?_ ?_ (by kernel_rfl) (by kernel_rfl) (by kernel_rfl) (fun _ _ _ h => h) ?_ ?_ (by assumption) ?_
          rotate_left 2
          · simp only [List.getElem?_toArray, List.getElem?_cons_succ, List.getElem?_cons_zero]; exact rfl
          · rfl
          · intro w hSw; (try dsimp only at hSw); go_simp; try with_reducible rfl
          try simp only [Act.put]
          try simp only [List.setIfInBounds_toArray, List.set_cons_zero, List.set_cons_succ]
          refine reg_call 3 ?_ (by kernel_rfl) ?_ (fun K hK => ?_)
          rotate_left 1
          · simp only [List.getElem?_toArray, List.getElem?_cons_succ, List.getElem?_cons_zero]; exact rfl
          obtain ⟨v1, wa, hrun, rown, hgrow, hkept⟩ := run_append_any (P := Try.prog) w8 w8.heap.size 57 57 50 i0 (.agg #[.int .i64 0, .int .i64 0]) 2 16 (by kernel_rfl) HI.out HZ0.out HZ1.out HZ2.out rfl (noWordI2 _ _) (.slice none 0 0) 0 [] (RowN.nil w8 w8.heap.size 50 2) ⟨ba, 0, none⟩ (i) (uc) (ptRow (D.take i)) (by rw [ptRow_len]; simp [HD.out]; try omega) (ahead_cells row_2) (ptRow_one _) (ptRow_noWord _) (by unfold maxLen; omega) (by omega) (by first | exact Nat.le_refl _ | exact hsz24)
          have hsz24 : w8.heap.size ≤ wa.heap.size := hgrow.size
          have hB_3 := hB_2.grown hgrow (by have := hB_2.size; omega) (fun k hk => by cases hk)
          have ps_3 := ps_2.grown hgrow (fun e => by cases e) ps_2.lt
          have f1x_3 := f1x_2.kept hkept
          have f1y_3 := f1y_2.kept hkept
          have row_3 := row_2.grown hgrow (fun k hk e => by cases e)
          have pm_3 := pm_2.grown hgrow (fun e => by cases e) pm_2.lt
          have f5_3 := f5_2.kept hkept
          have pq_2 := pq_1.grown hgrow (fun e => by cases e) pq_1.lt
          clear hB_2 ps_2 f1x_2 f1y_2 row_2 pm_2 f5_2 pq_1
          have w24 := wa; clear w24
          have r1_0 := rown; have hr1 := rown.lt; clear rown
          refine wanted_by (by kernel_rfl) ?_
          refine wp_append_row _ _ 57 rfl rfl rfl hrun ?_
          clear hrun hgrow hkept
          refine hK.out _ _ trivial (fun hHeld => ?_)
          clear hK K
          try simp only [Act.put]
          try simp only [List.setIfInBounds_toArray, List.set_cons_zero, List.set_cons_succ]
          refine reg_call 8 ?_ (by kernel_rfl) ?_ (fun K hK => ?_)
          rotate_left 1
          · simp only [List.getElem?_toArray, List.getElem?_cons_succ, List.getElem?_cons_zero]; exact rfl
          obtain ⟨wb, rfl⟩ : ∃ wb : World, wb = wa := ⟨_, rfl⟩
          obtain ⟨v2, wa, hrun, rown, hgrow, hkept⟩ := run_append_any (P := Try.prog) wb w8.heap.size 57 57 50 i0 (.agg #[.int .i64 0, .int .i64 0]) 2 16 (by kernel_rfl) HI.out HZ0.out HZ1.out HZ2.out rfl (noWordI2 _ _) v1 (0 + i) _ r1_0 bo (dn - (i + 1)) (uc - (i + 1)) (ptRow (D.drop (i + 1))) (by rw [ptRow_len]; simp [HD.out]; try omega) (behind_cells row_3 HD.out HBO.out) (ptRow_one _) (ptRow_noWord _) (by unfold maxLen; omega) (by omega) (by first | exact Nat.le_refl _ | exact hsz24)
          have hB_4 := hB_3.grown hgrow (by have := hB_3.size; omega) (fun k hk => by have := hr1 k hk; have := hB_3.size; omega)
          have ps_4 := ps_3.grown hgrow (fun e => by have := hr1 _ e; have := ps_3.lt; omega) ps_3.lt
          have f1x_4 := f1x_3.kept hkept
          have f1y_4 := f1y_3.kept hkept
          have row_4 := row_3.grown hgrow (fun k hk e => by have h1 := hr1 k e.symm; have h2 := hulm k hk; omega)
          have pm_4 := pm_3.grown hgrow (fun e => by have := hr1 _ e; have := pm_3.lt; omega) pm_3.lt
          have f5_4 := f5_3.kept hkept
          have pq_3 := pq_2.grown hgrow (fun e => by have := hr1 _ e; have := pq_2.lt; omega) pq_2.lt
          clear hB_3 ps_3 f1x_3 f1y_3 row_3 pm_3 f5_3 pq_2
          have rot_0 := rown; clear rown
          refine wanted_by (by kernel_rfl) ?_
          refine wp_append_row _ _ 57 rfl rfl rfl hrun ?_
          clear hrun hgrow hkept
          refine hK.out _ _ trivial (fun hHeld => ?_)
          clear hK K
          try simp only [Act.put]
          try simp only [List.setIfInBounds_toArray, List.set_cons_zero, List.set_cons_succ]
          refine reg_take 9 ?_ ?_ ?_ (by kernel_rfl) (by kernel_rfl) (by kernel_rfl) (fun _ _ _ h => h) ?_ ?_ (by assumption) ?_
          rotate_left 2
          · simp only [List.getElem?_toArray, List.getElem?_cons_succ, List.getElem?_cons_zero]; exact rfl
          · rfl
          · intro w hSw; (try dsimp only at hSw); go_simp; try with_reducible rfl
          try simp only [Act.put]
          try simp only [List.setIfInBounds_toArray, List.set_cons_zero, List.set_cons_succ]
          refine wpAnyH_done (by kernel_rfl) ?_ _
          refine NoPanic.normal ?_
          have hoe : [] ++ ptRow (D.take i) ++ ptRow (D.drop (i + 1)) = ptRow (othersI D i) := by rw [List.nil_append, ← ptRow_app]; rfl
          rw [hoe] at rot_0
          obtain ⟨mo, hmo⟩ : ∃ m, 0 + i + (dn - (i + 1)) = m := ⟨_, rfl⟩
          rw [hmo] at rot_0
          have hrl9 := rot_0.lt
          obtain ⟨oo, oc, rfl, hop⟩ := rot_0.ptsAt
          have frop : ∀ a, oo = some a → a.block ≠ w5.heap.size := fun a ha => by have h1 := hrl9 a.block (by rw [ha]; rfl); omega
          have hol : (othersI D i).length = mo := by rw [others_len (by rw [HD.out]; omega), HD.out]; omega
          have HOL := Lib.hid hol; clear hol hoe rot_0
          obtain ⟨cn, hcn⟩ : ∃ m, (cellL D i).length = m := ⟨_, rfl⟩
          have hcl := cellL_len HND.out HLQ.out
          rw [hcn, HD.out] at hcl
          have HCN := Lib.hid hcn; have hcn18 : cn ≤ 4 + 2 * 7 := by omega
          have op_0 := hop; clear hcn hcl hop hsl1 hsl2 HBO
          go_wp2
          have hB_5 := hB_4.drew'
          have ps_5 := ps_4.drew
          have f1x_5 := f1x_4.drew
          have f1y_5 := f1y_4.drew
          have row_5 := row_4.drew
          have pm_5 := pm_4.drew
          have f5_5 := f5_4.drew
          have pq_4 := pq_3.drew
          have op_1 := op_0.drew
          clear hB_4 ps_4 f1x_4 f1y_4 row_4 pm_4 f5_4 pq_3 op_0
          go_region_held3 (fun w' => w'.cell? ⟨wc.heap.size, 0, none⟩ = some (.int .i64 q0) ∧ w'.cell? ⟨wc.heap.size, 1, none⟩ = some (.int .i64 q1))
            (first | with_reducible exact ⟨pq_4.c0, pq_4.c1⟩ | with_reducible exact ⟨pq_5.c0, pq_5.c1⟩ | with_reducible exact ⟨pq_6.c0, pq_6.c1⟩ | fail)
            (first
              | (go_at_call 31; (with_reducible refine (box20s _).mono ?_); rintro e w9 ⟨b3, o3, c3, rfl, sp3_0, hb9⟩; have hB_6 := hB_5.trans (hb9.mono hB_5.size); have ps_6 := ps_5.below hb9; have f1x_6 := f1x_5.below hb9; have f1y_6 := f1y_5.below hb9; have row_6 := row_5.below hb9; have pm_6 := pm_5.below hb9; have f5_6 := f5_5.below hb9; have pq_5 := pq_4.below hb9; have op_2 := op_1.below hb9; clear hb9 hB_5 ps_5 f1x_5 f1y_5 row_5 pm_5 f5_5 pq_4 op_1)
              | (go_at_call 30; (with_reducible refine ((cCell_any q0 q1 oo mo oc _ b3 o3 4 c3 (boxQ ((20 : Int) : Rat)) _ HQ0.out HQ1.out HOL.out (by omega) op_2 (fun q hq => HRG.out.inP (others_mem q hq)) (others_ne HND.out HLQ.out) rfl (by omega) (by omega) box20_poly sp3_0).mono (fun e w' g => ((g.of (cellL_at HLQ.out).symm (fun _ h => h)).m HCN.out).g pm_6.lt)).mono ?_); rintro e w10 ⟨ao6, ac6, rfl, sp6_0, fr6, hb10⟩; have hB_7 := hB_6.trans (hb10.mono hB_6.size); have ps_7 := ps_6.below hb10; have f1x_7 := f1x_6.below hb10; have f1y_7 := f1y_6.below hb10; have row_7 := row_6.below hb10; have pm_7 := pm_6.below hb10; have f5_7 := f5_6.below hb10; have pq_6 := pq_5.below hb10; have op_3 := op_2.below hb10; have sp3_1 := sp3_0.below hb10; clear hb10 hB_6 ps_6 f1x_6 f1y_6 row_6 pm_6 f5_6 pq_5 op_2 sp3_0))
          clear sp3_1
          go_wp2_with fail
          refine (cConvex_yes ao6 cn ac6 _ 7 _ HCN.out (by omega) (by omega) sp6_0 (cellL_poly HND.out HLQ.out)).mono ?_
          rintro e w11 ⟨rfl, hb11⟩
          have hB_8 := hB_7.trans (hb11.mono hB_7.size)
          have ps_8 := ps_7.below hb11
          have f1x_8 := f1x_7.below hb11
          have f1y_8 := f1y_7.below hb11
          have row_8 := row_7.below hb11
          have pm_8 := pm_7.below hb11
          have f5_8 := f5_7.below hb11
          have pq_7 := pq_6.below hb11
          have op_4 := op_3.below hb11
          have sp6_1 := sp6_0.below hb11
          clear hb11 hB_7 ps_7 f1x_7 f1y_7 row_7 pm_7 f5_7 pq_6 op_3 sp6_0
          go_wp2
          have SP6 := Lib.hid sp6_1
          have h6w := hB_8.size
          have fr6' : ∀ a, ao6 = some a → a.block ≠ w5.heap.size := fun a ha => by have h1 := fr6 a ha; omega
          have frsp6 := fr6'
          have hul := hulm
          have hWq_0 := Below.refl w11.heap.size w11
          have hsq : w.heap.size ≤ w11.heap.size := hB_8.size
          have hlqps := ps_8.lt
          have hlqpm := pm_8.lt
          have hlqpq := pq_7.lt
          have hB_9 := hB_8.drew'
          have ps_9 := ps_8.drew
          have f1x_9 := f1x_8.drew
          have f1y_9 := f1y_8.drew
          have row_9 := row_8.drew
          have pm_9 := pm_8.drew
          have f5_9 := f5_8.drew
          have pq_8 := pq_7.drew
          have op_5 := op_4.drew
          have sp6_2 := sp6_1.drew
          have hWq_1 := hWq_0.drew'
          clear hB_8 ps_8 f1x_8 f1y_8 row_8 pm_8 f5_8 pq_7 op_4 sp6_1 hWq_0
          obtain ⟨FFq, hFFq⟩ : ∃ F : World → Prop, ∀ w', F w' ↔ (Below w.heap.size w w' ∧ Box w' (w.heap.size) [.bool m1x, .slice o1x n1x c1x, .slice p1x k1x d1x, .bool m1y, .slice o1y n1y c1y, .slice p1y k1y d1y] ∧ RF w' (.agg #[.bool m1x, .slice o1x n1x c1x, .slice p1x k1x d1x]) (1) (tameQ Xsx Dsx) ∧ RF w' (.agg #[.bool m1y, .slice o1y n1y c1y, .slice p1y k1y d1y]) (1) (tameQ Xsy Dsy) ∧ RowN w' (w.heap.size + 1) 50 2 (.slice (some ⟨ba, 0, none⟩) dn uc) dn (ptRow D) ∧ Box w' (w5.heap.size) [.bool m5, .slice o5 n5 c5, .slice p5 k5 d5] ∧ RF w' (.agg #[.bool m5, .slice o5 n5 c5, .slice p5 k5 d5]) (1 + i * (1 + (4 + 2 * 7) * ((7 + 7 + 2 + (7 + 7 + 2) + 2) + 2) + 2)) (sumI D i) ∧ Box w' (wc.heap.size) [.int .i64 q0, .int .i64 q1] ∧ PtsAt w' oo (othersI D i) ∧ SpotsR w' ao6 7 (cellL D i) ∧ Below w11.heap.size w11 w') := ⟨_, fun _ => Iff.rfl⟩
          have cFq : ∀ {w' w'' : World}, FFq w' → Below w'.heap.size w' w'' → FFq w'' := by
            intro w' w'' h hb
            obtain ⟨y0, y1, y2, y3, y4, y5, y6, y7, y8, y9, y10⟩ := (hFFq _).1 h
            exact (hFFq _).2 ⟨y0.trans (hb.mono y0.size), y1.below hb, y2.below hb, y3.below hb, y4.below hb, y5.below hb, y6.below hb, y7.below hb, y8.below hb, y9.below hb, y10.trans (hb.mono y10.size)⟩
          have mFq : ∀ {w' : World}, FFq w' → w11.heap.size ≤ w'.heap.size := by
            intro w' h
            obtain ⟨y0, y1, y2, y3, y4, y5, y6, y7, y8, y9, y10⟩ := (hFFq _).1 h
            exact y10.size
          have sFq : ∀ {w' : World}, FFq w' → (True) := by
            intro w' h
            obtain ⟨y0, y1, y2, y3, y4, y5, y6, y7, y8, y9, y10⟩ := (hFFq _).1 h
            exact trivial
          have zF : FFq w11.drew := (hFFq _).2 ⟨hB_9, ps_9, f1x_9, f1y_9, row_9, pm_9, f5_9, pq_8, op_5, sp6_2, hWq_1⟩
          clear hB_9 ps_9 f1x_9 f1y_9 row_9 pm_9 f5_9 pq_8 op_5 sp6_2 hWq_1
          refine wp_region_noPanic ?_
          refine wp_region_held_drew (S := fun w' => True) (by kernel_rfl) (sFq zF) (fun hHeld => ?_)
          refine reg_take 1 ?_ ?_ ?_ (by kernel_rfl) (by kernel_rfl) (by kernel_rfl) (fun _ _ _ h => h) ?_ ?_ (by assumption) ?_
          rotate_left 2
          · simp only [List.getElem?_toArray, List.getElem?_cons_succ, List.getElem?_cons_zero]; exact rfl
          · rfl
          · intro w hSw; (try dsimp only at hSw); go_simp; try with_reducible rfl
          try simp only [Act.put]
          try simp only [List.setIfInBounds_toArray, List.set_cons_zero, List.set_cons_succ]
          refine reg_grab (fun WWq aq hWW hAA => ?_)
          rw [hWW]
          have HAq := Lib.hid hAA; clear hWW hAA hHeld
          obtain ⟨IVq, hIVq⟩ : ∃ IV : Array Bool → Act → World → Prop, ∀ l a w', IV l a w' ↔ ∀ CC : Prop, (∀ (lb0 lb2 lb3 : Bool) (lv0 lv2 lv3 : Value) (m8 : Bool) (o8 : Option Addr) (n8 : Nat) (c8 : Nat) (p8 : Option Addr) (k8 : Nat) (d8 : Nat) (m9 : Bool) (o9 : Option Addr) (n9 : Nat) (c9 : Nat) (p9 : Option Addr) (k9 : Nat) (d9 : Nat), (l = #[lb0, true, lb2, lb3, false]) → (a = (((aq.put (some 84) lv0).put (some 86) lv2).put (some 87) lv3)) → (FFq w') → ((lb0 = true → lv0 = .agg #[.bool m5, .slice o5 n5 c5, .slice p5 k5 d5])) → ((lb2 = true → lv2 = .agg #[.bool m8, .slice o8 n8 c8, .slice p8 k8 d8] ∧ RF w' (.agg #[.bool m8, .slice o8 n8 c8, .slice p8 k8 d8]) (1 + cn * ((7 + 7 + 2 + (7 + 7 + 2) + 2) + 2)) (areaQ (cellL D i)))) → ((lb3 = true → lv3 = .agg #[.bool m9, .slice o9 n9 c9, .slice p9 k9 d9] ∧ RF w' (.agg #[.bool m9, .slice o9 n9 c9, .slice p9 k9 d9]) ((1 + i * (1 + (4 + 2 * 7) * ((7 + 7 + 2 + (7 + 7 + 2) + 2) + 2) + 2)) + (1 + cn * ((7 + 7 + 2 + (7 + 7 + 2) + 2) + 2)) + 2) (sumI D i + areaQ (cellL D i)))) → ((lb3 = true → lb0 = true)) → ((lb3 = true → lb2 = true)) → CC) → CC := ⟨_, fun _ _ _ => Iff.rfl⟩
          refine wpAnyH_until IVq ?_ _ _ _ _ ((hIVq _ _ _).2 (fun CC kk => kk false false false (aq.tmps.getD 84 undef) (aq.tmps.getD 86 undef) (aq.tmps.getD 87 undef) false none 0 0 none 0 0 false none 0 0 none 0 0 rfl (by simp only [put_same]) zF (fun h => by cases h) (fun h => by cases h) (fun h => by cases h) (fun h => by cases h) (fun h => by cases h))) (by kernel_rfl)
          clear zF
          intro ll aa w12 hI
          refine (hIVq _ _ _).1 hI _ ?_
          clear hI
          intro lb0 lb2 lb3 lv0 lv2 lv3 m8 o8 n8 c8 p8 k8 d8 m9 o9 n9 c9 p9 k9 d9 hll haa zF F0 F2 F3 dp3_0 dp3_2
          subst hll haa
          by_cases hL : lb0 = true ∧ lb2 = true ∧ lb3 = true
          · left
            obtain ⟨rfl, rfl, rfl⟩ := hL
            obtain rfl := F0 rfl
            clear F0
            obtain ⟨rfl, f8_0⟩ := F2 rfl
            clear F2
            obtain ⟨rfl, f9_0⟩ := F3 rfl
            clear F3
            clear dp3_0 dp3_2
            show wpAnyH _ _ _ _ _ 1 _ _ _
            rw [HAq.out]
            try simp only [Act.put]
            try simp only [List.setIfInBounds_toArray, List.set_cons_zero, List.set_cons_succ]
            obtain ⟨hB_0, ps_0, f1x_0, f1y_0, row_0, pm_0, f5_0, pq_0, op_0, sp6_0, hWq_0⟩ := (hFFq _).1 zF
            clear zF
            clear hWq_0
            obtain ⟨sf1a, sf1b, sf1c, sf1d, sf1e, sf1f⟩ := pm_0.open3
            obtain ⟨sg1a, sg1b, sg1c, sg1d⟩ := Box.put3 pm_0 (.bool m9) (.slice o9 n9 c9)
            refine reg_call 4 ?_ (by kernel_rfl) ?_ (fun K hK => ?_)
            rotate_left 1
            · simp only [List.getElem?_toArray, List.getElem?_cons_succ, List.getElem?_cons_zero]; exact rfl
            go_simp
            have hB_1 := below_setAll hB_0 (g := w5.heap.size) (by omega) [.bool m9, .slice o9 n9 c9, .slice p9 k9 d9]
            have ps_1 := ps_0.farAll (g' := w5.heap.size) (by omega) [.bool m9, .slice o9 n9 c9, .slice p9 k9 d9]
            have f1x_1 := f1x_0.setAll pm_0 (noWord3 _ _ _ _ _ _ _) [.bool m9, .slice o9 n9 c9, .slice p9 k9 d9] rfl
            have f1y_1 := f1y_0.setAll pm_0 (noWord3 _ _ _ _ _ _ _) [.bool m9, .slice o9 n9 c9, .slice p9 k9 d9] rfl
            have row_1 := RowN.farFrom (g' := w5.heap.size) (fun g hg => by have h1 := row_0.lt g hg; first | omega | (have h2 := hul g hg; omega)) [.bool m9, .slice o9 n9 c9, .slice p9 k9 d9] 0 row_0
            have f5_1 := f5_0.setAll pm_0 (noWord3 _ _ _ _ _ _ _) [.bool m9, .slice o9 n9 c9, .slice p9 k9 d9] rfl
            have pq_1 := pq_0.farAll (g' := w5.heap.size) (by omega) [.bool m9, .slice o9 n9 c9, .slice p9 k9 d9]
            have op_1 := op_0.setBox pm_0 (noWord3 _ _ _ _ _ _ _) [.bool m9, .slice o9 n9 c9, .slice p9 k9 d9] rfl (fun a ha => by have h1 := frop a ha; omega)
            have sp6_1 := sp6_0.setBox pm_0 (noWord3 _ _ _ _ _ _ _) [.bool m9, .slice o9 n9 c9, .slice p9 k9 d9] rfl (fun a ha => by have h1 := frsp6 a ha; omega)
            have f8_1 := f8_0.setAll pm_0 (noWord3 _ _ _ _ _ _ _) [.bool m9, .slice o9 n9 c9, .slice p9 k9 d9] rfl
            have f9_1 := f9_0.setAll pm_0 (noWord3 _ _ _ _ _ _ _) [.bool m9, .slice o9 n9 c9, .slice p9 k9 d9] rfl
            have pm_1 := pm_0.setAll [.bool m9, .slice o9 n9 c9, .slice p9 k9 d9] rfl
            simp only [setAll, Nat.zero_add, Nat.reduceAdd] at hB_1 ps_1 f1x_1 f1y_1 row_1 pm_1 f5_1 pq_1 op_1 sp6_1 f8_1 f9_1
            clear sf1a sf1b sf1c sf1d sf1e sf1f sg1a sg1b sg1c sg1d
            clear hB_0 ps_0 f1x_0 f1y_0 row_0 f5_0 pq_0 op_0 sp6_0 f8_0 f9_0 pm_0
            refine hK.out _ _ trivial (fun hHeld => ?_)
            clear hK K
            try simp only [Act.put]
            try simp only [List.setIfInBounds_toArray, List.set_cons_zero, List.set_cons_succ]
            generalize (World.setCell (World.setCell (World.setCell w12 ⟨w5.heap.size, 0, none⟩ (.bool m9)) ⟨w5.heap.size, 1, none⟩ (.slice o9 n9 c9)) ⟨w5.heap.size, 2, none⟩ (.slice p9 k9 d9)) = w13 at *
            refine wpAnyH_done (by kernel_rfl) ?_ _
            refine NoPanic.normal ?_
            clear f5_1 f8_1
            go_wp2
            obtain ⟨t0, ht0⟩ : ∃ t : Bool, InL (boxQ ((20 : Int) : Rat)) (tameQ Xsx Dsx, tameQ Xsy Dsy) ↔ t = true := by
              by_cases h : InL (boxQ ((20 : Int) : Rat)) (tameQ Xsx Dsx, tameQ Xsy Dsy)
              · exact ⟨true, fun _ => rfl, fun _ => h⟩
              · exact ⟨false, fun k => absurd k h, fun k => by cases k⟩
            have HT0 := Lib.hid ht0; clear ht0
            have hB_2 := hB_1.drew'
            have ps_2 := ps_1.drew
            have f1x_2 := f1x_1.drew
            have f1y_2 := f1y_1.drew
            have row_2 := row_1.drew
            have pm_2 := pm_1.drew
            have pq_2 := pq_1.drew
            have op_2 := op_1.drew
            have sp6_2 := sp6_1.drew
            have f9_2 := f9_1.drew
            clear hB_1 ps_1 f1x_1 f1y_1 row_1 pm_1 pq_1 op_1 sp6_1 f9_1
            go_region_held3 (fun w' => w'.cell? ⟨w.heap.size, 0, none⟩ = some (.bool m1x) ∧ w'.cell? ⟨w.heap.size, 1, none⟩ = some (.slice o1x n1x c1x) ∧ w'.cell? ⟨w.heap.size, 2, none⟩ = some (.slice p1x k1x d1x) ∧ w'.cell? ⟨w.heap.size, 3, none⟩ = some (.bool m1y) ∧ w'.cell? ⟨w.heap.size, 4, none⟩ = some (.slice o1y n1y c1y) ∧ w'.cell? ⟨w.heap.size, 5, none⟩ = some (.slice p1y k1y d1y))
              (first | with_reducible exact ⟨ps_2.c0, ps_2.c1, ps_2.c2, ps_2.c3, ps_2.c4, ps_2.c5⟩ | with_reducible exact ⟨ps_3.c0, ps_3.c1, ps_3.c2, ps_3.c3, ps_3.c4, ps_3.c5⟩ | with_reducible exact ⟨ps_4.c0, ps_4.c1, ps_4.c2, ps_4.c3, ps_4.c4, ps_4.c5⟩ | fail)
              (first
                | (go_at_call 31; (with_reducible refine (box20n _).mono ?_); rintro e w14 ⟨ao7, ac7, rfl, sp7_0, fr7, hb14⟩; have hB_3 := hB_2.trans (hb14.mono hB_2.size); have ps_3 := ps_2.below hb14; have f1x_3 := f1x_2.below hb14; have f1y_3 := f1y_2.below hb14; have row_3 := row_2.below hb14; have pm_3 := pm_2.below hb14; have pq_3 := pq_2.below hb14; have op_3 := op_2.below hb14; have sp6_3 := sp6_2.below hb14; have f9_3 := f9_2.below hb14; clear hb14 hB_2 ps_2 f1x_2 f1y_2 row_2 pm_2 pq_2 op_2 sp6_2 f9_2)
                | (go_at_call 20; (with_reducible refine (cWithin_any ao7 4 ac7 (boxQ ((20 : Int) : Rat)) 1 7 _ _ t0 _ rfl (by omega) (by omega) (by omega) sp7_0 f1x_3.q f1y_3.q HT0.out).mono ?_); rintro e w15 ⟨rfl, hb15⟩; have hB_4 := hB_3.trans (hb15.mono hB_3.size); have ps_4 := ps_3.below hb15; have f1x_4 := f1x_3.below hb15; have f1y_4 := f1y_3.below hb15; have row_4 := row_3.below hb15; have pm_4 := pm_3.below hb15; have pq_4 := pq_3.below hb15; have op_4 := op_3.below hb15; have sp6_4 := sp6_3.below hb15; have f9_4 := f9_3.below hb15; have sp7_1 := sp7_0.below hb15; clear hb15 hB_3 ps_3 f1x_3 f1y_3 row_3 pm_3 pq_3 op_3 sp6_3 f9_3 sp7_0))
            clear sp7_1
            go_wp2
            have YhB := Lib.hid hB_4
            have Yps := Lib.hid ps_4
            have Ypq := Lib.hid pq_4
            have Yf1x := Lib.hid f1x_4
            have Yf1y := Lib.hid f1y_4
            have Yrow := Lib.hid row_4
            have Ypm := Lib.hid pm_4
            have Yf9 := Lib.hid f9_4
            have Ysp6 := Lib.hid sp6_4
            have Yop := Lib.hid op_4
            have hgy := pm_4.lt
            clear hB_4 ps_4 pq_4 f1x_4 f1y_4 row_4 pm_4 f9_4 sp6_4 op_4
            have hY_0 := Below.refl w15.heap.size w15
            go_loopw [17, 93] (fun tv jv wr => ∃ j : Nat, ∃ t : Bool, j ≤ mo ∧ jv = .int .i64 j ∧ tv = .bool t ∧ ((InL (boxQ ((20 : Int) : Rat)) (tameQ Xsx Dsx, tameQ Xsy Dsy) ∧ ∀ o, o ∈ (othersI D i).take j → dQ (tameQ Xsx Dsx, tameQ Xsy Dsy) (ptQ (q0, q1)) ≤ dQ (tameQ Xsx Dsx, tameQ Xsy Dsy) (ptQ o)) ↔ t = true) ∧ Below w15.heap.size w15 wr) (fun _ jv _ => mo - (intOf jv).toNat)
            case atStart => exact ⟨0, t0, Nat.zero_le _, rfl, rfl, ⟨fun h => HT0.out.1 h.1, fun h => ⟨HT0.out.2 h, fun o ho => by simp at ho⟩⟩, hY_0⟩
            case round =>
              obtain ⟨j, t, hj, rfl, rfl, ht, hY_0⟩ := hrel
              have HTT := Lib.hid ht; clear ht
              by_cases hjl : j < mo
              · have hB_0 := YhB.out.trans (hY_0.mono YhB.out.size)
                obtain ⟨⟨o0, o1⟩, hlj⟩ : ∃ q, (othersI D i)[j]? = some q := ⟨_, List.getElem?_eq_getElem (by rw [HOL.out]; omega)⟩
                obtain ⟨io0, io1⟩ := HRG.out.inP (others_mem _ (List.mem_of_getElem? hlj))
                have HO0 := Lib.hid io0; have HO1 := Lib.hid io1
                obtain ⟨bb, ob, hao, ee0, ee1⟩ := (Yop.out.below hY_0) j o0 o1 hlj
                subst hao
                have htk := take_snoc hlj
                have HTK := Lib.hid htk; clear htk hlj io0 io1
                have ps_0 := Yps.out.below hY_0; have pq_0 := Ypq.out.below hY_0; have f1x_0 := Yf1x.out.below hY_0; have f1y_0 := Yf1y.out.below hY_0
                have hl1ps := ps_0.lt
                have hl1pq := pq_0.lt
                have hl1B := hB_0.size
                obtain ⟨w16, hw16, po_0, hb16, hs16⟩ := new_box wr (wr.heap.size) rfl [.int .i64 o0, .int .i64 o1] 50
                have hb16' : Below wr.heap.size wr w16 := hb16.mono (by omega)
                clear hb16
                have hY_1 := hY_0.trans (hb16'.mono hY_0.size)
                have hB_1 := hB_0.trans (hb16'.mono hB_0.size)
                have ps_1 := ps_0.below hb16'
                have pq_1 := pq_0.below hb16'
                have f1x_1 := f1x_0.below hb16'
                have f1y_1 := f1y_0.below hb16'
                clear hb16' hY_0 hB_0 ps_0 pq_0 f1x_0 f1y_0
                go_wp2
                try rw [hw16]
                clear ee0 ee1
                cases t
                · have hY_2 := hY_1.drew'
                  have hB_2 := hB_1.drew'
                  have ps_2 := ps_1.drew
                  have pq_2 := pq_1.drew
                  have f1x_2 := f1x_1.drew
                  have f1y_2 := f1y_1.drew
                  have po_1 := po_0.drew
                  refine wp_region_noPanic ?_
                  refine wp_region_held_drew (S := fun w' => w'.cell? ⟨wr.heap.size, 0, none⟩ = some (.int .i64 o0) ∧ w'.cell? ⟨wr.heap.size, 1, none⟩ = some (.int .i64 o1)) (by kernel_rfl) (⟨po_1.c0, po_1.c1⟩) (fun hHeld => ?_)
                  refine reg_take 0 ?_ ?_ ?_ (by kernel_rfl) (by kernel_rfl) (by kernel_rfl) (fun _ _ _ h => h) ?_ ?_ (by assumption) ?_
                  rotate_left 2
                  · simp only [List.getElem?_toArray, List.getElem?_cons_zero]; exact rfl
                  · rfl
                  · intro w hSw; (try dsimp only at hSw); go_simp; try with_reducible rfl
                  try simp only [Act.put]
                  try simp only [List.setIfInBounds_toArray, List.set_cons_zero, List.set_cons_succ]
                  refine reg_take 1 ?_ ?_ ?_ (by kernel_rfl) (by kernel_rfl) (by kernel_rfl) (fun _ _ _ h => h) ?_ ?_ (by assumption) ?_
                  rotate_left 2
                  · simp only [List.getElem?_toArray, List.getElem?_cons_succ, List.getElem?_cons_zero]; exact rfl
                  · rfl
                  · intro w hSw; (try dsimp only at hSw); go_simp; try with_reducible rfl
                  try simp only [Act.put]
                  try simp only [List.setIfInBounds_toArray, List.set_cons_zero, List.set_cons_succ]
                  refine reg_skip 2 ?_ ?_ (by kernel_rfl) (by kernel_rfl) (by kernel_rfl) (fun _ _ _ h => h) ?_ (by assumption) ?_
                  rotate_left 1
                  · simp only [List.getElem?_toArray, List.getElem?_cons_succ, List.getElem?_cons_zero]; exact rfl
                  · rfl
                  try simp only [Act.put]
                  try simp only [List.setIfInBounds_toArray, List.set_cons_zero, List.set_cons_succ]
                  refine reg_skip 3 ?_ ?_ (by kernel_rfl) (by kernel_rfl) (by kernel_rfl) (fun _ _ _ h => h) ?_ (by assumption) ?_
                  rotate_left 1
                  · simp only [List.getElem?_toArray, List.getElem?_cons_succ, List.getElem?_cons_zero]; exact rfl
                  · rfl
                  try simp only [Act.put]
                  try simp only [List.setIfInBounds_toArray, List.set_cons_zero, List.set_cons_succ]
                  refine reg_skip 4 ?_ ?_ (by kernel_rfl) (by kernel_rfl) (by kernel_rfl) (fun _ _ _ h => h) ?_ (by assumption) ?_
                  rotate_left 1
                  · simp only [List.getElem?_toArray, List.getElem?_cons_succ, List.getElem?_cons_zero]; exact rfl
                  · rfl
                  try simp only [Act.put]
                  try simp only [List.setIfInBounds_toArray, List.set_cons_zero, List.set_cons_succ]
                  refine reg_skip 5 ?_ ?_ (by kernel_rfl) (by kernel_rfl) (by kernel_rfl) (fun _ _ _ h => h) ?_ (by assumption) ?_
                  rotate_left 1
                  · simp only [List.getElem?_toArray, List.getElem?_cons_succ, List.getElem?_cons_zero]; exact rfl
                  · rfl
                  try simp only [Act.put]
                  try simp only [List.setIfInBounds_toArray, List.set_cons_zero, List.set_cons_succ]
                  refine reg_skip 6 ?_ ?_ (by kernel_rfl) (by kernel_rfl) (by kernel_rfl) (fun _ _ _ h => h) ?_ (by assumption) ?_
                  rotate_left 1
                  · simp only [List.getElem?_toArray, List.getElem?_cons_succ, List.getElem?_cons_zero]; exact rfl
                  · rfl
                  try simp only [Act.put]
                  try simp only [List.setIfInBounds_toArray, List.set_cons_zero, List.set_cons_succ]
                  refine reg_skip 7 ?_ ?_ (by kernel_rfl) (by kernel_rfl) (by kernel_rfl) (fun _ _ _ h => h) ?_ (by assumption) ?_
                  rotate_left 1
                  · simp only [List.getElem?_toArray, List.getElem?_cons_succ, List.getElem?_cons_zero]; exact rfl
                  · rfl
                  try simp only [Act.put]
                  try simp only [List.setIfInBounds_toArray, List.set_cons_zero, List.set_cons_succ]
                  refine reg_skip 8 ?_ ?_ (by kernel_rfl) (by kernel_rfl) (by kernel_rfl) (fun _ _ _ h => h) ?_ (by assumption) ?_
                  rotate_left 1
                  · simp only [List.getElem?_toArray, List.getElem?_cons_succ, List.getElem?_cons_zero]; exact rfl
                  · rfl
                  try simp only [Act.put]
                  try simp only [List.setIfInBounds_toArray, List.set_cons_zero, List.set_cons_succ]
                  refine reg_skip 9 ?_ ?_ (by kernel_rfl) (by kernel_rfl) (by kernel_rfl) (fun _ _ _ h => h) ?_ (by assumption) ?_
                  rotate_left 1
                  · simp only [List.getElem?_toArray, List.getElem?_cons_succ, List.getElem?_cons_zero]; exact rfl
                  · rfl
                  try simp only [Act.put]
                  try simp only [List.setIfInBounds_toArray, List.set_cons_zero, List.set_cons_succ]
                  refine reg_skip 10 ?_ ?_ (by kernel_rfl) (by kernel_rfl) (by kernel_rfl) (fun _ _ _ h => h) ?_ (by assumption) ?_
                  rotate_left 1
                  · simp only [List.getElem?_toArray, List.getElem?_cons_succ, List.getElem?_cons_zero]; exact rfl
                  · rfl
                  try simp only [Act.put]
                  try simp only [List.setIfInBounds_toArray, List.set_cons_zero, List.set_cons_succ]
                  refine reg_skip 11 ?_ ?_ (by kernel_rfl) (by kernel_rfl) (by kernel_rfl) (fun _ _ _ h => h) ?_ (by assumption) ?_
                  rotate_left 1
                  · simp only [List.getElem?_toArray, List.getElem?_cons_succ, List.getElem?_cons_zero]; exact rfl
                  · rfl
                  try simp only [Act.put]
                  try simp only [List.setIfInBounds_toArray, List.set_cons_zero, List.set_cons_succ]
                  refine reg_take 12 ?_ ?_ ?_ (by kernel_rfl) (by kernel_rfl) (by kernel_rfl) (fun _ _ _ h => h) ?_ ?_ (by assumption) ?_
                  rotate_left 2
                  · simp only [List.getElem?_toArray, List.getElem?_cons_succ, List.getElem?_cons_zero]; exact rfl
                  · rfl
                  · intro w hSw; (try dsimp only at hSw); go_simp; try with_reducible rfl
                  try simp only [Act.put]
                  try simp only [List.setIfInBounds_toArray, List.set_cons_zero, List.set_cons_succ]
                  refine reg_take 13 ?_ ?_ ?_ (by kernel_rfl) (by kernel_rfl) (by kernel_rfl) (fun _ _ _ h => h) ?_ ?_ (by assumption) ?_
                  rotate_left 2
                  · simp only [List.getElem?_toArray, List.getElem?_cons_succ, List.getElem?_cons_zero]; exact rfl
                  · rfl
                  · intro w hSw; (try dsimp only at hSw); go_simp; try with_reducible rfl
                  try simp only [Act.put]
                  try simp only [List.setIfInBounds_toArray, List.set_cons_zero, List.set_cons_succ]
                  refine wpAnyH_done (by kernel_rfl) ?_ _
                  refine NoPanic.normal ?_
                  go_wp2
                  refine ⟨⟨j + 1, false, by omega, by go_num, rfl, ⟨fun h => ?_, fun h => by cases h⟩, hY_2⟩, by simp [intOf]; omega⟩
                  rw [HTK.out] at h
                  exact HTT.out.1 ⟨h.1, fun o ho => h.2 o (List.mem_append_left _ ho)⟩
                · obtain ⟨cc, hcc⟩ : ∃ c, qcmp (dQ (tameQ Xsx Dsx, tameQ Xsy Dsy) (ptQ (q0, q1))) (dQ (tameQ Xsx Dsx, tameQ Xsy Dsy) (ptQ (o0, o1))) = c := ⟨_, rfl⟩
                  have hcle := le_cmp (dQ (tameQ Xsx Dsx, tameQ Xsy Dsy) (ptQ (q0, q1))) (dQ (tameQ Xsx Dsx, tameQ Xsy Dsy) (ptQ (o0, o1)))
                  rw [hcc] at hcle
                  obtain ⟨tb, htb⟩ : ∃ b : Bool, decide (cc ≤ 0) = b := ⟨_, rfl⟩
                  have hiff : dQ (tameQ Xsx Dsx, tameQ Xsy Dsy) (ptQ (q0, q1)) ≤ dQ (tameQ Xsx Dsx, tameQ Xsy Dsy) (ptQ (o0, o1)) ↔ tb = true := by rw [← hcle, ← htb]; simp
                  have HCC := Lib.hid (show qcmp (dQ (tameQ Xsx Dsx, tameQ Xsy Dsy) ((q0 : Rat), (q1 : Rat))) (dQ (tameQ Xsx Dsx, tameQ Xsy Dsy) ((o0 : Rat), (o1 : Rat))) = cc from hcc); have HIF := Lib.hid hiff; clear hcc hcle hiff
                  have hY_2 := hY_1.drew'
                  have hB_2 := hB_1.drew'
                  have ps_2 := ps_1.drew
                  have pq_2 := pq_1.drew
                  have f1x_2 := f1x_1.drew
                  have f1y_2 := f1y_1.drew
                  have po_1 := po_0.drew
                  clear hY_1 hB_1 ps_1 pq_1 f1x_1 f1y_1 po_0
                  go_region_held3 (fun w' => w'.cell? ⟨w.heap.size, 0, none⟩ = some (.bool m1x) ∧ w'.cell? ⟨w.heap.size, 1, none⟩ = some (.slice o1x n1x c1x) ∧ w'.cell? ⟨w.heap.size, 2, none⟩ = some (.slice p1x k1x d1x) ∧ w'.cell? ⟨w.heap.size, 3, none⟩ = some (.bool m1y) ∧ w'.cell? ⟨w.heap.size, 4, none⟩ = some (.slice o1y n1y c1y) ∧ w'.cell? ⟨w.heap.size, 5, none⟩ = some (.slice p1y k1y d1y) ∧ w'.cell? ⟨wc.heap.size, 0, none⟩ = some (.int .i64 q0) ∧ w'.cell? ⟨wc.heap.size, 1, none⟩ = some (.int .i64 q1) ∧ w'.cell? ⟨wr.heap.size, 0, none⟩ = some (.int .i64 o0) ∧ w'.cell? ⟨wr.heap.size, 1, none⟩ = some (.int .i64 o1))
                    (first | with_reducible exact ⟨ps_2.c0, ps_2.c1, ps_2.c2, ps_2.c3, ps_2.c4, ps_2.c5, pq_2.c0, pq_2.c1, po_1.c0, po_1.c1⟩ | with_reducible exact ⟨ps_3.c0, ps_3.c1, ps_3.c2, ps_3.c3, ps_3.c4, ps_3.c5, pq_3.c0, pq_3.c1, po_2.c0, po_2.c1⟩ | with_reducible exact ⟨ps_4.c0, ps_4.c1, ps_4.c2, ps_4.c3, ps_4.c4, ps_4.c5, pq_4.c0, pq_4.c1, po_3.c0, po_3.c1⟩ | with_reducible exact ⟨ps_5.c0, ps_5.c1, ps_5.c2, ps_5.c3, ps_5.c4, ps_5.c5, pq_5.c0, pq_5.c1, po_4.c0, po_4.c1⟩ | with_reducible exact ⟨ps_6.c0, ps_6.c1, ps_6.c2, ps_6.c3, ps_6.c4, ps_6.c5, pq_6.c0, pq_6.c1, po_5.c0, po_5.c1⟩ | with_reducible exact ⟨ps_7.c0, ps_7.c1, ps_7.c2, ps_7.c3, ps_7.c4, ps_7.c5, pq_7.c0, pq_7.c1, po_6.c0, po_6.c1⟩ | fail)
                    (first
                      | (go_at_call 28; (with_reducible refine (sOf_any q0 q1 HQ0.out HQ1.out _).mono ?_); rintro e w17 ⟨m4x, o4x, n4x, c4x, p4x, k4x, d4x, m4y, o4y, n4y, c4y, p4y, k4y, d4y, rfl, f4x_0, f4y_0, hb17⟩; have hY_3 := hY_2.trans (hb17.mono hY_2.size); have hB_3 := hB_2.trans (hb17.mono hB_2.size); have ps_3 := ps_2.below hb17; have pq_3 := pq_2.below hb17; have f1x_3 := f1x_2.below hb17; have f1y_3 := f1y_2.below hb17; have po_2 := po_1.below hb17; clear hb17 hY_2 hB_2 ps_2 pq_2 f1x_2 f1y_2 po_1)
                      | (go_at_call 27; (with_reducible refine (sDist2_any 1 _ _ 1 _ _ _ (by omega) (by omega) f1x_3.q f1y_3.q f4x_0.q f4y_0.q).mono ?_); rintro e w18 ⟨m5, o5, n5, c5, p5, k5, d5, rfl, f5_0, hb18⟩; have hY_4 := hY_3.trans (hb18.mono hY_3.size); have hB_4 := hB_3.trans (hb18.mono hB_3.size); have ps_4 := ps_3.below hb18; have pq_4 := pq_3.below hb18; have f1x_4 := f1x_3.below hb18; have f1y_4 := f1y_3.below hb18; have po_3 := po_2.below hb18; have f4x_1 := f4x_0.below hb18; have f4y_1 := f4y_0.below hb18; clear hb18 hY_3 hB_3 ps_3 pq_3 f1x_3 f1y_3 po_2 f4x_0 f4y_0)
                      | (go_at_call 28; (with_reducible refine (sOf_any o0 o1 HO0.out HO1.out _).mono ?_); rintro e w19 ⟨m6x, o6x, n6x, c6x, p6x, k6x, d6x, m6y, o6y, n6y, c6y, p6y, k6y, d6y, rfl, f6x_0, f6y_0, hb19⟩; have hY_5 := hY_4.trans (hb19.mono hY_4.size); have hB_5 := hB_4.trans (hb19.mono hB_4.size); have ps_5 := ps_4.below hb19; have pq_5 := pq_4.below hb19; have f1x_5 := f1x_4.below hb19; have f1y_5 := f1y_4.below hb19; have po_4 := po_3.below hb19; have f4x_2 := f4x_1.below hb19; have f4y_2 := f4y_1.below hb19; have f5_1 := f5_0.below hb19; clear hb19 hY_4 hB_4 ps_4 pq_4 f1x_4 f1y_4 po_3 f4x_1 f4y_1 f5_0)
                      | (go_at_call 27; (with_reducible refine (sDist2_any 1 _ _ 1 _ _ _ (by omega) (by omega) f1x_5.q f1y_5.q f6x_0.q f6y_0.q).mono ?_); rintro e w20 ⟨m7, o7, n7, c7, p7, k7, d7, rfl, f7_0, hb20⟩; have hY_6 := hY_5.trans (hb20.mono hY_5.size); have hB_6 := hB_5.trans (hb20.mono hB_5.size); have ps_6 := ps_5.below hb20; have pq_6 := pq_5.below hb20; have f1x_6 := f1x_5.below hb20; have f1y_6 := f1y_5.below hb20; have po_5 := po_4.below hb20; have f4x_3 := f4x_2.below hb20; have f4y_3 := f4y_2.below hb20; have f5_2 := f5_1.below hb20; have f6x_1 := f6x_0.below hb20; have f6y_1 := f6y_0.below hb20; clear hb20 hY_5 hB_5 ps_5 pq_5 f1x_5 f1y_5 po_4 f4x_2 f4y_2 f5_1 f6x_0 f6y_0)
                      | (go_at_call 26; (with_reducible refine (qCmp _ _ (((1 + 1 + 2) + (1 + 1 + 2) + 2) + ((1 + 1 + 2) + (1 + 1 + 2) + 2) + 2) (((1 + 1 + 2) + (1 + 1 + 2) + 2) + ((1 + 1 + 2) + (1 + 1 + 2) + 2) + 2) _ _ _ (by omega) (by omega) f5_2.q f7_0.q cc (by rw [dist_dC (tameQ Xsx Dsx, tameQ Xsy Dsy) ((q0 : Rat), (q1 : Rat)), dist_dC (tameQ Xsx Dsx, tameQ Xsy Dsy) ((o0 : Rat), (o1 : Rat))]; exact HCC.out)).mono ?_); rintro e w21 ⟨rfl, hb21⟩; have hY_7 := hY_6.trans (hb21.mono hY_6.size); have hB_7 := hB_6.trans (hb21.mono hB_6.size); have ps_7 := ps_6.below hb21; have pq_7 := pq_6.below hb21; have f1x_7 := f1x_6.below hb21; have f1y_7 := f1y_6.below hb21; have po_6 := po_5.below hb21; have f4x_4 := f4x_3.below hb21; have f4y_4 := f4y_3.below hb21; have f5_3 := f5_2.below hb21; have f6x_2 := f6x_1.below hb21; have f6y_2 := f6y_1.below hb21; have f7_1 := f7_0.below hb21; clear hb21 hY_6 hB_6 ps_6 pq_6 f1x_6 f1y_6 po_5 f4x_3 f4y_3 f5_2 f6x_1 f6y_1 f7_0))
                  go_wp2
                  refine ⟨⟨j + 1, tb, by omega, by go_num, rfl, ?_, hY_7⟩, by simp [intOf]; omega⟩
                  rw [HTK.out]
                  refine ⟨fun h => HIF.out.1 (h.2 _ (by simp)), fun h => ⟨(HTT.out.2 (by first | rfl | trivial)).1, fun o ho => ?_⟩⟩
                  rcases List.mem_append.1 ho with h1 | h1
                  · exact (HTT.out.2 (by first | rfl | trivial)).2 o h1
                  · simp at h1; subst h1; exact HIF.out.2 h
              · obtain rfl : j = mo := by omega
                have htk : (othersI D i).take j = othersI D i := by rw [← HOL.out]; exact List.take_length
                have htt := HTT.out
                rw [htk] at htt
                have hcin := (cellL_in HND.out HRG.out HLQ.out (tameQ Xsx Dsx, tameQ Xsy Dsy)).trans htt
                have HCI := Lib.hid hcin; clear hcin htt htk
                have hB_0 := YhB.out.trans (hY_0.mono YhB.out.size)
                have ps_0 := Yps.out.below hY_0; have f1x_0 := Yf1x.out.below hY_0; have f1y_0 := Yf1y.out.below hY_0; have row_0 := Yrow.out.below hY_0; have pm_0 := Ypm.out.below hY_0; have f9_0 := Yf9.out.below hY_0; have sp6_0 := Ysp6.out.below hY_0
                obtain ⟨pse0, pse1, pse2, pse3, pse4, pse5, pse6, pse7, pse8, pse9, pse10, pse11⟩ := ps_0.open6
                go_wp2_with fail
                refine (cWithin_any ao6 cn ac6 (cellL D i) 1 7 _ _ t _ HCN.out (by omega) (by omega) (by omega) sp6_0 f1x_0.q f1y_0.q HCI.out).mono ?_
                rintro e w16 ⟨rfl, hb16⟩
                clear pse0 pse1 pse2 pse3 pse4 pse5 pse6 pse7 pse8 pse9 pse10 pse11
                have hY_1 := hY_0.trans (hb16.mono hY_0.size)
                have hB_1 := hB_0.trans (hb16.mono hB_0.size)
                have ps_1 := ps_0.below hb16
                have f1x_1 := f1x_0.below hb16
                have f1y_1 := f1y_0.below hb16
                have row_1 := row_0.below hb16
                have pm_1 := pm_0.below hb16
                have f9_1 := f9_0.below hb16
                have sp6_1 := sp6_0.below hb16
                clear hb16 hY_0 hB_0 ps_0 f1x_0 f1y_0 row_0 pm_0 f9_0 sp6_0
                have hgy2 := pm_1.lt
                have hsum : sumI D (i + 1) = sumI D i + areaQ (cellL D i) := rfl
                have HSU := Lib.hid hsum; clear hsum
                cases t
                · go_wp2
                  exact ⟨⟨i + 1, by omega, by go_num, hB_1, ps_1, f1x_1, f1y_1, row_1, by omega, _, _, _, _, _, _, _, pm_1, by rw [HSU.out]; exact f9_1.more (by omega)⟩, by simp [intOf]; omega⟩
                · go_wp2
                  exact ⟨⟨i + 1, by omega, by go_num, hB_1, ps_1, f1x_1, f1y_1, row_1, by omega, _, _, _, _, _, _, _, pm_1, by rw [HSU.out]; exact f9_1.more (by omega)⟩, by simp [intOf]; omega⟩
          · right
            refine ⟨?_, fun i hi => ?_⟩
            · clear zF F0 F2 F3
              cases lb0
              · exact ready_of 0 _ rfl rfl (by kernel_rfl)
              cases lb2
              · exact ready_of 2 _ rfl rfl (by kernel_rfl)
              cases lb3
              · exact ready_of 3 _ rfl rfl (by kernel_rfl)
              exact absurd ⟨rfl, rfl, rfl⟩ hL
            have hd : (lb0 = false ∧ i = 0) ∨ (lb2 = false ∧ i = 2) ∨ (lb3 = false ∧ lb0 = true ∧ lb2 = true ∧ i = 3) := by
              have hin := ready_lt hi
              obtain rfl | rfl | rfl | rfl | rfl : i = 0 ∨ i = 1 ∨ i = 2 ∨ i = 3 ∨ i = 4 := by have hin' : i < 5 := hin; omega
              · exact .inl ⟨ready_off hi, rfl⟩
              · exact absurd (ready_off hi) (fun h => Bool.noConfusion (show true = false from h))
              · exact .inr (.inl ⟨ready_off hi, rfl⟩)
              · exact .inr (.inr (⟨ready_off hi, ready_dep (d := 0) hi (by kernel_rfl), ready_dep (d := 2) hi (by kernel_rfl), rfl⟩))
              · have k3 : lb3 = true := ready_dep (d := 3) hi (by kernel_rfl); have k0 : lb0 = true := ready_dep (d := 0) hi (by kernel_rfl); have k2 : lb2 = true := ready_dep (d := 2) hi (by kernel_rfl)
                exact absurd ⟨k0, k2, k3⟩ hL
            clear hi hL
            rcases hd with ⟨rfl, rfl⟩ | ⟨rfl, rfl⟩ | ⟨rfl, rfl, rfl, rfl⟩
            · obtain ⟨-, -, -, -, -, pm_0, -, -, -, -, -⟩ := (hFFq _).1 zF
              obtain ⟨pme0, pme1, pme2, pme3, pme4, pme5⟩ := pm_0.open3
              refine step_of 0 ?_ ?_ (fun K hK => ?_)
              rotate_left 1
              · simp only [List.getElem?_toArray, List.getElem?_cons_zero]; exact rfl
              rw [HAq.out]
              try simp only [Act.put]
              try simp only [List.setIfInBounds_toArray, List.set_cons_zero, List.set_cons_succ]
              go_simp
              refine hK.out _ _ (sFq zF) ?_
              exact (hIVq _ _ _).2 (fun CC kk => kk true lb2 lb3 (.agg #[.bool m5, .slice o5 n5 c5, .slice p5 k5 d5]) lv2 lv3 m8 o8 n8 c8 p8 k8 d8 m9 o9 n9 c9 p9 k9 d9 rfl (by simp only [HAq.out, Act.put, List.setIfInBounds_toArray, List.set_cons_zero, List.set_cons_succ]) zF (fun _ => rfl) F2 (fun h => absurd (dp3_0 h) (by decide)) (fun _ => rfl) dp3_2)
            · obtain ⟨-, -, -, -, -, -, -, -, -, sp6_0, -⟩ := (hFFq _).1 zF
              refine step_of 2 ?_ ?_ (fun K hK => ?_)
              rotate_left 1
              · simp only [List.getElem?_toArray, List.getElem?_cons_succ, List.getElem?_cons_zero]; exact rfl
              rw [HAq.out]
              try simp only [Act.put]
              try simp only [List.setIfInBounds_toArray, List.set_cons_zero, List.set_cons_succ]
              go_simp
              refine (sArea2_any ao6 cn ac6 _ 7 _ HCN.out (by omega) (by omega) sp6_0.spots).mono ?_
              rintro e w16 ⟨m8, o8, n8, c8, p8, k8, d8, rfl, f8_0, hb⟩
              go_wp2_with fail
              refine hK.out _ _ (sFq (cFq zF hb)) ?_
              exact (hIVq _ _ _).2 (fun CC kk => kk lb0 true lb3 lv0 (.agg #[.bool m8, .slice o8 n8 c8, .slice p8 k8 d8]) lv3 m8 o8 n8 c8 p8 k8 d8 m9 o9 n9 c9 p9 k9 d9 rfl (by simp only [HAq.out, Act.put, List.setIfInBounds_toArray, List.set_cons_zero, List.set_cons_succ]) (cFq zF hb) F0 (fun _ => ⟨rfl, f8_0⟩) (fun h => absurd (dp3_2 h) (by decide)) dp3_0 (fun _ => rfl))
            · obtain rfl := F0 rfl
              clear F0
              obtain ⟨rfl, f8_0⟩ := F2 rfl
              clear F2
              obtain ⟨-, -, -, -, -, -, f5_0, -, -, -, -⟩ := (hFFq _).1 zF
              refine step_of 3 ?_ ?_ (fun K hK => ?_)
              rotate_left 1
              · simp only [List.getElem?_toArray, List.getElem?_cons_succ, List.getElem?_cons_zero]; exact rfl
              rw [HAq.out]
              try simp only [Act.put]
              try simp only [List.setIfInBounds_toArray, List.set_cons_zero, List.set_cons_succ]
              go_simp
              refine (qAdd _ _ (1 + i * (1 + (4 + 2 * 7) * ((7 + 7 + 2 + (7 + 7 + 2) + 2) + 2) + 2)) (1 + cn * ((7 + 7 + 2 + (7 + 7 + 2) + 2) + 2)) _ _ _ (by omega) (by omega) f5_0.q f8_0.q).mono ?_
              rintro e w17 ⟨m9, o9, n9, c9, p9, k9, d9, rfl, f9_0, hb⟩
              go_wp2_with fail
              refine hK.out _ _ (sFq (cFq zF hb)) ?_
              exact (hIVq _ _ _).2 (fun CC kk => kk true true true _ _ (.agg #[.bool m9, .slice o9 n9 c9, .slice p9 k9 d9]) m8 o8 n8 c8 p8 k8 d8 m9 o9 n9 c9 p9 k9 d9 rfl (by simp only [HAq.out, Act.put, List.setIfInBounds_toArray, List.set_cons_zero, List.set_cons_succ]) (cFq zF hb) (fun _ => rfl) (fun _ => ⟨rfl, f8_0.below hb⟩) (fun _ => ⟨rfl, f9_0⟩) (fun _ => rfl) (fun _ => rfl))
        · obtain rfl : i = dn := by omega
          by_cases hz : i = 0
          · subst hz
            go_wp2
            have hB_1 := hB_0.drew'
            have ps_1 := ps_0.drew
            have f1x_1 := f1x_0.drew
            have f1y_1 := f1y_0.drew
            have row_1 := row_0.drew
            have pm_1 := pm_0.drew
            have f5_1 := f5_0.drew
            refine wp_region_noPanic ?_
            refine wp_region_held_drew (S := fun w' => w'.cell? ⟨w5.heap.size, 0, none⟩ = some (.bool m5) ∧ w'.cell? ⟨w5.heap.size, 1, none⟩ = some (.slice o5 n5 c5) ∧ w'.cell? ⟨w5.heap.size, 2, none⟩ = some (.slice p5 k5 d5)) (by kernel_rfl) (⟨pm_1.c0, pm_1.c1, pm_1.c2⟩) (fun hHeld => ?_)
            refine reg_take 0 ?_ ?_ ?_ (by kernel_rfl) (by kernel_rfl) (by kernel_rfl) (fun _ _ _ h => h) ?_ ?_ (by assumption) ?_
            rotate_left 2
            · simp only [List.getElem?_toArray, List.getElem?_cons_zero]; exact rfl
            · rfl
            · intro w hSw; (try dsimp only at hSw); go_simp; try with_reducible rfl
            try simp only [Act.put]
            try simp only [List.setIfInBounds_toArray, List.set_cons_zero, List.set_cons_succ]
            refine reg_take 1 ?_ ?_ ?_ (by kernel_rfl) (by kernel_rfl) (by kernel_rfl) (fun _ _ _ h => h) ?_ ?_ (by assumption) ?_
            rotate_left 2
            · simp only [List.getElem?_toArray, List.getElem?_cons_succ, List.getElem?_cons_zero]; exact rfl
            · rfl
            · intro w hSw; (try dsimp only at hSw); go_simp; try with_reducible rfl
            try simp only [Act.put]
            try simp only [List.setIfInBounds_toArray, List.set_cons_zero, List.set_cons_succ]
            refine reg_take 2 ?_ ?_ ?_ (by kernel_rfl) (by kernel_rfl) (by kernel_rfl) (fun _ _ _ h => h) ?_ ?_ (by assumption) ?_
            rotate_left 2
            · simp only [List.getElem?_toArray, List.getElem?_cons_succ, List.getElem?_cons_zero]; exact rfl
            · rfl
            · intro w hSw; (try dsimp only at hSw); go_simp; try with_reducible rfl
            try simp only [Act.put]
            try simp only [List.setIfInBounds_toArray, List.set_cons_zero, List.set_cons_succ]
            refine reg_take 3 ?_ ?_ ?_ (by kernel_rfl) (by kernel_rfl) (by kernel_rfl) (fun _ _ _ h => h) ?_ ?_ (by assumption) ?_
            rotate_left 2
            · simp only [List.getElem?_toArray, List.getElem?_cons_succ, List.getElem?_cons_zero]; exact rfl
            · rfl
            · intro w hSw; (try dsimp only at hSw); go_simp; try with_reducible rfl
            try simp only [Act.put]
            try simp only [List.setIfInBounds_toArray, List.set_cons_zero, List.set_cons_succ]
            refine reg_skip 4 ?_ ?_ (by kernel_rfl) (by kernel_rfl) (by kernel_rfl) (fun _ _ _ h => h) ?_ (by assumption) ?_
            rotate_left 1
            · simp only [List.getElem?_toArray, List.getElem?_cons_succ, List.getElem?_cons_zero]; exact rfl
            · rfl
            try simp only [Act.put]
            try simp only [List.setIfInBounds_toArray, List.set_cons_zero, List.set_cons_succ]
            refine reg_skip 5 ?_ ?_ (by kernel_rfl) (by kernel_rfl) (by kernel_rfl) (fun _ _ _ h => h) ?_ (by assumption) ?_
            rotate_left 1
            · simp only [List.getElem?_toArray, List.getElem?_cons_succ, List.getElem?_cons_zero]; exact rfl
            · rfl
            try simp only [Act.put]
            try simp only [List.setIfInBounds_toArray, List.set_cons_zero, List.set_cons_succ]
            refine reg_skip 6 ?_ ?_ (by kernel_rfl) (by kernel_rfl) (by kernel_rfl) (fun _ _ _ h => h) ?_ (by assumption) ?_
            rotate_left 1
            · simp only [List.getElem?_toArray, List.getElem?_cons_succ, List.getElem?_cons_zero]; exact rfl
            · rfl
            try simp only [Act.put]
            try simp only [List.setIfInBounds_toArray, List.set_cons_zero, List.set_cons_succ]
            refine reg_take 7 ?_ ?_ ?_ (by kernel_rfl) (by kernel_rfl) (by kernel_rfl) (fun _ _ _ h => h) ?_ ?_ (by assumption) ?_
            rotate_left 2
            · simp only [List.getElem?_toArray, List.getElem?_cons_succ, List.getElem?_cons_zero]; exact rfl
            · rfl
            · intro w hSw; (try dsimp only at hSw); go_simp; try with_reducible rfl
            try simp only [Act.put]
            try simp only [List.setIfInBounds_toArray, List.set_cons_zero, List.set_cons_succ]
            refine reg_take 8 ?_ ?_ ?_ (by kernel_rfl) (by kernel_rfl) (by kernel_rfl) (fun _ _ _ h => h) ?_ ?_ (by assumption) ?_
            rotate_left 2
            · simp only [List.getElem?_toArray, List.getElem?_cons_succ, List.getElem?_cons_zero]; exact rfl
            · rfl
            · intro w hSw; (try dsimp only at hSw); go_simp; try with_reducible rfl
            try simp only [Act.put]
            try simp only [List.setIfInBounds_toArray, List.set_cons_zero, List.set_cons_succ]
            refine wpAnyH_done (by kernel_rfl) ?_ _
            refine NoPanic.normal ?_
            go_wp2
            go_ret
            exact ⟨rfl, hB_1⟩
          · have hz0 : ((i : Int) == 0) = false := by simp; omega
            have hall : sumI D i = ((3200 : Int) : Rat) := by rw [← HD.out]; exact sumI_all HND.out (fun e => hz (by rw [← HD.out, e]; rfl))
            have HALL := Lib.hid hall; clear hall
            go_wp2
            have hB_1 := hB_0.drew'
            have ps_1 := ps_0.drew
            have f1x_1 := f1x_0.drew
            have f1y_1 := f1y_0.drew
            have row_1 := row_0.drew
            have pm_1 := pm_0.drew
            have f5_1 := f5_0.drew
            clear hB_0 ps_0 f1x_0 f1y_0 row_0 pm_0 f5_0
            go_region_held3 (fun w' => w'.cell? ⟨w5.heap.size, 0, none⟩ = some (.bool m5) ∧ w'.cell? ⟨w5.heap.size, 1, none⟩ = some (.slice o5 n5 c5) ∧ w'.cell? ⟨w5.heap.size, 2, none⟩ = some (.slice p5 k5 d5))
              (first | with_reducible exact ⟨pm_1.c0, pm_1.c1, pm_1.c2⟩ | with_reducible exact ⟨pm_2.c0, pm_2.c1, pm_2.c2⟩ | with_reducible exact ⟨pm_3.c0, pm_3.c1, pm_3.c2⟩ | fail)
              (first
                | (go_at_call 29; (with_reducible refine (fOf_any 3200 (by omega) (by omega) _).mono ?_); rintro e w7 ⟨m6, o6, n6, c6, p6, k6, d6, rfl, f6_0, hb7⟩; have hB_2 := hB_1.trans (hb7.mono hB_1.size); have ps_2 := ps_1.below hb7; have f1x_2 := f1x_1.below hb7; have f1y_2 := f1y_1.below hb7; have row_2 := row_1.below hb7; have pm_2 := pm_1.below hb7; have f5_2 := f5_1.below hb7; clear hb7 hB_1 ps_1 f1x_1 f1y_1 row_1 pm_1 f5_1)
                | (go_at_call 15; (with_reducible refine (qSame_yes _ _ (1 + i * (1 + (4 + 2 * 7) * ((7 + 7 + 2 + (7 + 7 + 2) + 2) + 2) + 2)) 1 _ _ _ (by omega) (by omega) f5_2.q f6_0.q HALL.out).mono ?_); rintro e w8 ⟨rfl, hb8⟩; have hB_3 := hB_2.trans (hb8.mono hB_2.size); have ps_3 := ps_2.below hb8; have f1x_3 := f1x_2.below hb8; have f1y_3 := f1y_2.below hb8; have row_3 := row_2.below hb8; have pm_3 := pm_2.below hb8; have f5_3 := f5_2.below hb8; have f6_1 := f6_0.below hb8; clear hb8 hB_2 ps_2 f1x_2 f1y_2 row_2 pm_2 f5_2 f6_0))
            go_wp2
            go_ret
            exact ⟨rfl, hB_3⟩
theorem ClipCells_walk {sxm : Bool} {sxo : Option Addr} {sxn sxc : Nat} {sxp : Option Addr} {sxk sxd : Nat} {sym : Bool} {syo : Option Addr} {syn syc : Nat} {syp : Option Addr} {syk syd : Nat} {lo : Option Addr} {n lc : Nat} {l : List (Int × Int)} {Lsx : Nat} {Xsx : Int} {Dsx : Nat} {Lsy : Nat} {Xsy : Int} {Dsy : Nat} (w : World) (hl : l.length = n) (hr : PtsAt w lo l) (fsx_0 : FD w (.agg #[.bool sxm, .slice sxo sxn sxc, .slice sxp sxk sxd]) Lsx Xsx Dsx) (fsy_0 : FD w (.agg #[.bool sym, .slice syo syn syc, .slice syp syk syd]) Lsy Xsy Dsy) :
    Calls Try.prog 6 #[.slice lo n lc, .agg #[.bool sxm, .slice sxo sxn sxc, .slice sxp sxk sxd, .bool sym, .slice syo syn syc, .slice syp syk syd]] w fun e w' => e = .returned (.bool true) ∧ Below w.heap.size w w' := by
  by_cases h7 : n ≤ 7
  · exact ClipCells_w Lsx Lsy Xsx Xsy Dsx Dsy lo n lc l hl h7 w fsx_0 fsy_0 hr
  · exact ClipCells_long Lsx Lsy Xsx Xsy Dsx Dsy lo n lc (by omega) w fsx_0 fsy_0
end Go.Proofs.Ytdfabocecpcmcaa
