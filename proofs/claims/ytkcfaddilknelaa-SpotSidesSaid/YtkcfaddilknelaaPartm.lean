/- A slice that is the call's own and grows by append; of its cells none is a word. Over any program. -/
import Derived.Test.YtkcfaddilknelaaParti
import Derived.Test.YtkcfaddilknelaaPartk
import Derived.Laws.AppendOwn
import Derived.Test.YtkcfaddilknelaaPartg
import Derived.Test.YtkcfaddilknelaaPartl
namespace Go.MagM
open Go.RowKit
/-- v is a slice of n elements of size cells each, that lies in a block at base or above; its cells are xs, and none of the block's cells is a word. -/
def RowN (w : World) (base : Nat) (e : TypeId) (size : Nat) (v : Value) (n : Nat) (xs : List Value) : Prop :=
  xs.length = n * size ∧ ((v = .slice none 0 0 ∧ n = 0) ∨
    ∃ g cap cur, v = .slice (some ⟨g, 0, none⟩) n cap ∧ base ≤ g ∧ w.heap[g]? = some (.cells cur e (0, 0)) ∧ n ≤ cap ∧ cap ≤ maxLen ∧ cur.size = cap * size ∧ cur.toList.take (n * size) = xs ∧ ∀ u ∈ cur.toList, NoWord u)
theorem RowN.own {w : World} {base : Nat} {e : TypeId} {size : Nat} {v : Value} {n : Nat} {xs : List Value} (h : RowN w base e size v n xs) : w.ownsRow base e size v n xs := by
  refine ⟨h.1, ?_⟩
  rcases h.2 with h | ⟨g, cap, cur, h1, h2, h3, h4, h5, h6, h7, _⟩
  · exact .inl h
  · exact .inr ⟨g, cap, cur, h1, h2, h3, h4, h5, h6, h7⟩
theorem RowN.nil (w : World) (base : Nat) (e : TypeId) (size : Nat) : RowN w base e size (.slice none 0 0) 0 [] := ⟨by simp, .inl ⟨rfl, rfl⟩⟩
theorem RowN.lt {w : World} {base : Nat} {e : TypeId} {size : Nat} {v : Value} {n : Nat} {xs : List Value} (h : RowN w base e size v n xs) : ∀ k, v.ownBlock = some k → base ≤ k ∧ k < w.heap.size := h.own.lt
theorem RowN.block {w w' : World} {base : Nat} {e : TypeId} {size : Nat} {v : Value} {n : Nat} {xs : List Value} (h : RowN w base e size v n xs) (hb : ∀ k, v.ownBlock = some k → k < w.heap.size → w'.heap[k]? = w.heap[k]?) : RowN w' base e size v n xs := by
  refine ⟨h.1, ?_⟩
  rcases h.2 with h | ⟨g, cap, cur, rfl, h2, h3, h4⟩
  · exact .inl h
  · exact .inr ⟨g, cap, cur, rfl, h2, by rw [hb g rfl (Array.getElem?_eq_some_iff.1 h3).1]; exact h3, h4⟩
theorem RowN.below {w w' : World} {base : Nat} {e : TypeId} {size : Nat} {v : Value} {n : Nat} {xs : List Value} (h : RowN w base e size v n xs) (hb : Below w.heap.size w w') : RowN w' base e size v n xs :=
  h.block fun k _ hk => hb.block k hk
theorem RowN.drew {w : World} {base : Nat} {e : TypeId} {size : Nat} {v : Value} {n : Nat} {xs : List Value} (h : RowN w base e size v n xs) : RowN w.drew base e size v n xs := h
theorem RowN.grown {w w' : World} {base : Nat} {e : TypeId} {size : Nat} {v : Value} {n : Nat} {xs : List Value} {row : Option Nat} (h : RowN w base e size v n xs) (hg : w.grownBy w' row) (hne : ∀ k, v.ownBlock = some k → some k ≠ row) : RowN w' base e size v n xs :=
  h.block fun k hk hl => hg.block k hl (hne k hk)
theorem Box.grown {w w' : World} {g : Nat} {vs : List Value} {row : Option Nat} (h : Box w g vs) (hg : w.grownBy w' row) (hne : row ≠ some g) (hl : g < w.heap.size) : Box w' g vs := by
  have e := hg.block g hl (fun k => hne k.symm)
  exact ⟨fun i x hi => (World.cell?_of_block (a := ⟨g, i, none⟩) e).trans (h.c i x hi), fun i x hi => (World.frozen?_of_block (a := ⟨g, i, none⟩) e).trans (h.f i x hi)⟩
theorem addr_add (g o j : Nat) : (⟨g, o, none⟩ : Addr).add j = ⟨g, o + j, none⟩ := by unfold Addr.add; split <;> simp_all
theorem Box.news {w : World} {g : Nat} {vs : List Value} (h : Box w g vs) : ∀ j u, vs[j]? = some u → w.cell? ((⟨g, 0, none⟩ : Addr).add j) = some u := by
  intro j u hu; rw [addr_add, Nat.zero_add]; exact h.c j u hu
theorem RowN.cells {w : World} {base : Nat} {e : TypeId} {size : Nat} {v : Value} {n : Nat} {xs : List Value} (h : RowN w base e size v n xs) {g : Nat} (hg : v.ownBlock = some g) : ∀ j u, xs[j]? = some u → w.cell? ⟨g, j, none⟩ = some u := by
  intro j u hu
  have := h.own.cells hg j u hu
  rwa [addr_add, Nat.zero_add] at this
section
variable {P : Program}
theorem noWord_zero {z : Array Value} (hz : ∀ u ∈ z.toList, NoWord u) (n : Nat) : ∀ u ∈ (Builtin.zeroCells z n).toList, NoWord u := by
  intro u hu
  unfold Builtin.zeroCells at hu
  rw [Array.toList_map, List.mem_map] at hu
  obtain ⟨i, hi, rfl⟩ := hu
  have hi' : i < n * z.size := by simpa using hi
  have h0 : 0 < z.size := by
    rcases Nat.eq_zero_or_pos z.size with h | h
    · rw [h] at hi'; omega
    · exact h
  have hm := Nat.mod_lt i h0
  rw [getElem!_pos z (i % z.size) hm]
  exact hz _ (Array.mem_toList_iff.2 (Array.getElem_mem hm))
theorem Kept.alloc (w : World) (o : Obj) : Kept w (w.drew.alloc o) := fun a x h => by
  rw [World.cell?_of_block (w := w) (a := a) (heap_alloc_old w.drew o (World.block_lt_of_cell? w a h))]; exact h
/-- append: some slice comes, in some world; its cells are those of both. -/
theorem run_append_row (w : World) (base : Nat) (t ty e : TypeId) (i : TypeInfo) (z : Value) (size bytes : Nat) (ht : P.underlying t = some (.slice e)) (hi : P.info? e = some i) (hz : i.zero = some z)
    (hsize : i.size = size) (hby : i.bytes = bytes) (hzs : z.cells.size = size) (hzw : ∀ u ∈ z.cells.toList, NoWord u)
    (v : Value) (n : Nat) (xs : List Value) (hrow : RowN w base e size v n xs)
    (a : Addr) (m c : Nat) (news : List Value) (hm0 : 0 < m) (hl : news.length = m * size) (hnews : ∀ j u, news[j]? = some u → w.cell? (a.add j) = some u) (h1 : ∀ u ∈ news, u.oneCell' = true) (hnw : ∀ u ∈ news, NoWord u)
    (h63 : n + m ≤ maxLen) (hbytes : (n + m) * bytes ≤ 140737488355328) (hbase : base ≤ w.heap.size) :
    ∃ v' w', (Builtin.append_ #[t, t] ty #[v, .slice (some a) m c]).run P w = .ok v' w' ∧ RowN w' base e size v' (n + m) (xs ++ news) ∧ w.grownBy w' v.ownBlock ∧ Kept w w' := by
  subst hsize
  subst hby
  have hlen : (xs ++ news).length = (n + m) * i.size := by rw [List.length_append, hrow.1, hl, Nat.add_mul]
  have grown : ∀ (old : Nat), old < n + m → (∀ u ∈ xs, NoWord u) → ∀ (row : Option Nat),
      RowN (w.drew.alloc (.cells (xs.toArray ++ news.toArray ++ Builtin.zeroCells z.cells (grownCap w (n + m) old e - (n + m))) e)) base e i.size
        (.slice (some ⟨w.heap.size, 0, none⟩) (n + m) (grownCap w (n + m) old e)) (n + m) (xs ++ news) ∧
      w.grownBy (w.drew.alloc (.cells (xs.toArray ++ news.toArray ++ Builtin.zeroCells z.cells (grownCap w (n + m) old e - (n + m))) e)) row := by
    intro old ho hxw row
    have hge := grownCap_ge w (n + m) old e
    have hcm : grownCap w (n + m) old e ≤ maxLen := grownCap_le_maxLen w (n + m) old e h63
    refine ⟨⟨hlen, .inr ⟨w.heap.size, _, _, rfl, hbase, heap_alloc_new w.drew _, hge, hcm, ?_, ?_, ?_⟩⟩, ⟨rfl, rfl, rfl, by simp, fun k hk _ => heap_alloc_old w.drew _ hk⟩⟩
    · simp only [Array.size_append, List.size_toArray, size_zeroCells, hzs, hrow.1, hl, ← Nat.add_mul]
      congr 1
      omega
    · simp only [Array.toList_append, List.append_assoc]
      rw [← List.append_assoc, ← hlen]
      exact List.take_left
    · intro u hu
      simp only [Array.toList_append, List.mem_append] at hu
      rcases hu with (hu | hu) | hu
      · exact hxw u hu
      · exact hnw u hu
      · exact noWord_zero hzw _ u hu
  have hrow' := hrow
  rcases hrow.2 with ⟨rfl, rfl⟩ | ⟨g, cap, cur, rfl, hbg, hg, hnc, hcm, hcs, htake, hcw⟩
  · have hx : xs = [] := List.eq_nil_of_length_eq_zero (by simpa using hrow.1)
    subst hx
    have hr := run_append_nil (P := P) w t ty e i z ht hi hz a m c news hl hnews hm0 (by simp only [maxLen] at h63; omega) (by have hb := hbytes; simp only [Nat.zero_add] at hb; omega)
    have hgr := grown 0 (by omega) (fun u hu => by cases hu) (Value.ownBlock (.slice none 0 0))
    simp only [Nat.zero_add, List.nil_append, Array.empty_append] at hgr ⊢
    exact ⟨_, _, hr, hgr.1, hgr.2, Kept.alloc w _⟩
  · by_cases hroom : n + m ≤ cap
    · have hfit : n * i.size + news.length ≤ cur.size := by rw [hl, hcs, ← Nat.add_mul]; exact Nat.mul_le_mul_right _ hroom
      have hr := run_append_room (P := P) w t ty e i ht hi g n cap cur hg a m c news hl hnews h1 hroom hfit
      have hcells : ∀ u ∈ cur.toList.take (n * i.size) ++ news ++ cur.toList.drop (n * i.size + news.length), NoWord u := by
        intro u hu
        rw [List.mem_append, List.mem_append] at hu
        rcases hu with (hu | hu) | hu
        · exact hcw u (List.mem_of_mem_take hu)
        · exact hnw u hu
        · exact hcw u (List.mem_of_mem_drop hu)
      refine ⟨_, _, hr, ⟨hlen, .inr ⟨g, cap, _, rfl, hbg, setRow_heap w g cur _ e _ hg, hroom, hcm, ?_, ?_, hcells⟩⟩, ⟨rfl, rfl, rfl, by simp, fun k _ hk => setRow_other w g k _ (fun e => hk (by simp [Value.ownBlock, e]))⟩, ?_⟩
      · simp only [List.size_toArray, List.length_append, List.length_take, List.length_drop, Array.length_toList]
        omega
      · rw [htake, ← hlen]
        exact List.take_left
      · intro p x hp
        by_cases hpg : p.block = g
        · exfalso
          obtain ⟨pb, po, ps⟩ := p
          simp at hpg
          subst hpg
          have hsp := World.cell?_spot hp
          simp at hsp
          subst hsp
          rw [cell_of_row w pb po cur e (0, 0) hg] at hp
          have hmem : Value.int .u64 x ∈ cur.toList := Array.mem_toList_iff.2 (Array.mem_of_getElem? hp)
          exact hcw _ hmem x rfl
        · rw [World.cell?_of_block (w := w) (a := p) (setRow_other w g p.block _ hpg)]; exact hp
    · have holds : ∀ j u, xs[j]? = some u → w.cell? ((⟨g, 0, none⟩ : Addr).add j) = some u := hrow'.own.cells (g := g) rfl
      have hr := run_append_grow (P := P) w t ty e i z ht hi hz ⟨g, 0, none⟩ n cap xs hrow'.1 holds a m c news hl hnews (by omega) (by simp only [maxLen] at h63; omega) (growslice_fits (by omega) hbytes)
      have hgr := grown cap (by omega) (fun u hu => hcw u (by rw [← htake] at hu; exact List.mem_of_mem_take hu)) (Value.ownBlock (.slice (some ⟨g, 0, none⟩) n cap))
      exact ⟨_, _, hr, hgr.1, hgr.2, Kept.alloc w _⟩
theorem wanted_go {o : Oper} {y : Nat → Option Bool} {A B : Prop} (hg : o.guard = none) (h : A) : if Region.wanted o y = true then A else B := by
  have e : Region.wanted o y = true := by simp [Region.wanted, hg]
  rw [if_pos e]; exact h
/-- The operation, in a walk. -/
theorem wp_append_row {w : World} {o : Oper} {a : Act} {K : Act → World → Prop} {Q : Exit → Act → World → Prop} (s x : Operand) (t : TypeId)
    (ho : o.op = .call { callee := .builtin .append, args := #[s, x], argTypes := #[t, t] })
    {v v' : Value} {u : Value} {w' : World} (hs : a.eval s = v) (hx : a.eval x = u) (hr : (Builtin.append_ #[t, t] o.type #[v, u]).run P w = .ok v' w')
    (h : K (a.put o.dst v') w') : o.wp P a w K Q := by
  unfold Oper.wp execOp
  simp only [ho, resolve, invoke, builtin, Sem.run_bind, Sem.run_pure, Result.andThen_ok, List.map_toArray, List.map_cons, List.map_nil, hs, hx, hr]
  exact h
end
end Go.MagM
/- Slices of Spots, rows of Fracs that grow. Over any program. -/
namespace Go.MagM
open Go.RowKit
/-- The slice at ao reads as points; each coordinate has at most L words. -/
def Spots (w : World) (ao : Option Addr) (L : Nat) (l : List (Rat × Rat)) : Prop :=
  ∀ i x y, l[i]? = some (x, y) → ∃ b o m so sn sc tp tn tc m' so' sn' sc' tp' tn' tc', ao = some ⟨b, o, none⟩ ∧ w.cell? ⟨b, o + i * 6, none⟩ = some (.bool m) ∧ w.cell? ⟨b, o + i * 6 + 1, none⟩ = some (.slice so sn sc) ∧ w.cell? ⟨b, o + i * 6 + 2, none⟩ = some (.slice tp tn tc) ∧
    w.cell? ⟨b, o + i * 6 + 3, none⟩ = some (.bool m') ∧ w.cell? ⟨b, o + i * 6 + 4, none⟩ = some (.slice so' sn' sc') ∧ w.cell? ⟨b, o + i * 6 + 5, none⟩ = some (.slice tp' tn' tc') ∧
    FQ w (.agg #[.bool m, .slice so sn sc, .slice tp tn tc]) L x ∧ FQ w (.agg #[.bool m', .slice so' sn' sc', .slice tp' tn' tc']) L y
theorem Spots.below {w w' : World} {ao : Option Addr} {L : Nat} {l : List (Rat × Rat)} (h : Spots w ao L l) (hb : Below w.heap.size w w') : Spots w' ao L l := by
  intro i x y hi
  obtain ⟨b, o, m, so, sn, sc, tp, tn, tc, m', so', sn', sc', tp', tn', tc', h0, h1, h2, h3, h4, h5, h6, h7, h8⟩ := h i x y hi
  have hlt := World.block_lt_of_cell? w _ h1
  exact ⟨b, o, m, so, sn, sc, tp, tn, tc, m', so', sn', sc', tp', tn', tc', h0, (hb.cell (p := ⟨b, o + i * 6, none⟩) hlt).trans h1, (hb.cell (p := ⟨b, o + i * 6 + 1, none⟩) hlt).trans h2, (hb.cell (p := ⟨b, o + i * 6 + 2, none⟩) hlt).trans h3,
    (hb.cell (p := ⟨b, o + i * 6 + 3, none⟩) hlt).trans h4, (hb.cell (p := ⟨b, o + i * 6 + 4, none⟩) hlt).trans h5, (hb.cell (p := ⟨b, o + i * 6 + 5, none⟩) hlt).trans h6, h7.below hb, h8.below hb⟩
theorem Spots.drew {w : World} {ao : Option Addr} {L : Nat} {l : List (Rat × Rat)} (h : Spots w ao L l) : Spots w.drew ao L l := h
/-- Six cells hold these values. -/
structure At6 (w : World) (b o : Nat) (v0 v1 v2 v3 v4 v5 : Value) : Prop where
  c0 : w.cell? ⟨b, o, none⟩ = some v0
  c1 : w.cell? ⟨b, o + 1, none⟩ = some v1
  c2 : w.cell? ⟨b, o + 2, none⟩ = some v2
  c3 : w.cell? ⟨b, o + 3, none⟩ = some v3
  c4 : w.cell? ⟨b, o + 4, none⟩ = some v4
  c5 : w.cell? ⟨b, o + 5, none⟩ = some v5
theorem At6.below {w w' : World} {b o : Nat} {v0 v1 v2 v3 v4 v5 : Value} (h : At6 w b o v0 v1 v2 v3 v4 v5) (hb : Below w.heap.size w w') : At6 w' b o v0 v1 v2 v3 v4 v5 := by
  have hlt := World.block_lt_of_cell? w _ h.c0
  exact ⟨(hb.cell (p := ⟨b, o, none⟩) hlt).trans h.c0, (hb.cell (p := ⟨b, o + 1, none⟩) hlt).trans h.c1, (hb.cell (p := ⟨b, o + 2, none⟩) hlt).trans h.c2, (hb.cell (p := ⟨b, o + 3, none⟩) hlt).trans h.c3, (hb.cell (p := ⟨b, o + 4, none⟩) hlt).trans h.c4, (hb.cell (p := ⟨b, o + 5, none⟩) hlt).trans h.c5⟩
theorem At6.drew {w : World} {b o : Nat} {v0 v1 v2 v3 v4 v5 : Value} (h : At6 w b o v0 v1 v2 v3 v4 v5) : At6 w.drew b o v0 v1 v2 v3 v4 v5 := ⟨h.c0, h.c1, h.c2, h.c3, h.c4, h.c5⟩
/-- Cells that are Fracs, three each. -/
def Fr (w : World) (L : Nat) (xs : List Value) (l : List Rat) : Prop :=
  ∀ i q, l[i]? = some q → ∃ m so sn sc tp tn tc, xs[i * 3]? = some (.bool m) ∧ xs[i * 3 + 1]? = some (.slice so sn sc) ∧ xs[i * 3 + 2]? = some (.slice tp tn tc) ∧ RF w (.agg #[.bool m, .slice so sn sc, .slice tp tn tc]) L q
theorem Fr.below {w w' : World} {L : Nat} {xs : List Value} {l : List Rat} (h : Fr w L xs l) (hb : Below w.heap.size w w') : Fr w' L xs l := fun i q hi => by
  obtain ⟨m, so, sn, sc, tp, tn, tc, h1, h2, h3, h4⟩ := h i q hi; exact ⟨m, so, sn, sc, tp, tn, tc, h1, h2, h3, h4.below hb⟩
theorem Fr.kept {w w' : World} {L : Nat} {xs : List Value} {l : List Rat} (h : Fr w L xs l) (hb : Kept w w') : Fr w' L xs l := fun i q hi => by
  obtain ⟨m, so, sn, sc, tp, tn, tc, h1, h2, h3, h4⟩ := h i q hi; exact ⟨m, so, sn, sc, tp, tn, tc, h1, h2, h3, h4.kept hb⟩
theorem Fr.drew {w : World} {L : Nat} {xs : List Value} {l : List Rat} (h : Fr w L xs l) : Fr w.drew L xs l := h
theorem Fr.nil (w : World) (L : Nat) : Fr w L [] [] := fun i q hi => by simp at hi
theorem Fr.snoc {w : World} {L : Nat} {xs : List Value} {l : List Rat} (h : Fr w L xs l) (hl : xs.length = l.length * 3) {m : Bool} {so : Option Addr} {sn sc : Nat} {tp : Option Addr} {tn tc : Nat} {q : Rat} (hq : RF w (.agg #[.bool m, .slice so sn sc, .slice tp tn tc]) L q) :
    Fr w L (xs ++ [.bool m, .slice so sn sc, .slice tp tn tc]) (l ++ [q]) := by
  intro i p hi
  by_cases hlt : i < l.length
  · rw [List.getElem?_append_left hlt] at hi
    obtain ⟨m, so, sn, sc, tp, tn, tc, h1, h2, h3, h4⟩ := h i p hi
    refine ⟨m, so, sn, sc, tp, tn, tc, ?_, ?_, ?_, h4⟩
    · rw [List.getElem?_append_left (by omega)]; exact h1
    · rw [List.getElem?_append_left (by omega)]; exact h2
    · rw [List.getElem?_append_left (by omega)]; exact h3
  · have hi' := (List.getElem?_eq_some_iff.1 hi).1
    simp at hi'
    obtain rfl : i = l.length := by omega
    rw [List.getElem?_append_right (by omega)] at hi
    simp at hi; subst hi
    refine ⟨m, so, sn, sc, tp, tn, tc, ?_, ?_, ?_, hq⟩
    · rw [← hl, List.getElem?_append_right (by omega), Nat.sub_self]; rfl
    · rw [← hl, List.getElem?_append_right (by omega), Nat.add_sub_cancel_left]; rfl
    · rw [← hl, List.getElem?_append_right (by omega), Nat.add_sub_cancel_left]; rfl
/-- Such a row is a slice of Fracs. -/
theorem Fr.fracs {w : World} {base : Nat} {e : TypeId} {v : Value} {n L : Nat} {xs : List Value} {l : List Rat} (h : Fr w L xs l) (hr : RowN w base e 3 v n xs) (hl : l.length = n) :
    ∃ ao c, v = .slice ao n c ∧ Fracs w ao (l.map (fun q => (L, q.num, q.den))) := by
  rcases hr.2 with ⟨rfl, rfl⟩ | ⟨g, cap, cur, rfl, _⟩
  · obtain rfl := List.length_eq_zero_iff.1 hl
    exact ⟨_, _, rfl, fun i L X D hi => by simp at hi⟩
  · refine ⟨_, _, rfl, fun i L' X D hi => ?_⟩
    rw [List.getElem?_map, Option.map_eq_some_iff] at hi
    obtain ⟨q, hq, he⟩ := hi
    simp at he
    obtain ⟨rfl, rfl, rfl⟩ := he
    obtain ⟨m, so, sn, sc, tp, tn, tc, h1, h2, h3, h4⟩ := h i q hq
    refine ⟨g, 0, m, so, sn, sc, tp, tn, tc, rfl, ?_, ?_, ?_, h4.fd⟩
    · rw [Nat.zero_add]; exact hr.cells rfl _ _ h1
    · rw [Nat.zero_add]; exact hr.cells rfl _ _ h2
    · rw [Nat.zero_add]; exact hr.cells rfl _ _ h3
theorem fVal_map (L : Nat) (l : List Rat) : fVal (l.map (fun q => (L, q.num, q.den))) = l.foldl (· + ·) 0 := by
  unfold fVal
  rw [List.map_map]
  congr 1
  exact (List.map_congr_left (fun q _ => qv_self q)).trans (List.map_id l)
theorem fLen_map (L : Nat) (l : List Rat) : fLen (l.map (fun q => (L, q.num, q.den))) = 1 + l.length * (L + 2) := by
  unfold fLen
  rw [List.map_map]
  have : ∀ (l : List Rat) (a : Nat), (l.map ((fun a : Nat × Int × Nat => a.1 + 2) ∘ fun q : Rat => (L, q.num, q.den))).foldl (· + ·) a = a + l.length * (L + 2) := by
    intro l
    induction l with
    | nil => intro a; simp
    | cons x l ih => intro a; rw [List.map_cons, List.foldl_cons, ih]; simp only [Function.comp, List.length_cons, Nat.add_mul]; omega
  exact this l 1
end Go.MagM
namespace Go.Proofs.Ytkcfaddilknelaa
open Go.MagM
/-- The terms of a polygon's area. -/
def termsQ (l : List (Rat × Rat)) : List Rat := (List.range l.length).map (termQ l)
theorem termsQ_len (l : List (Rat × Rat)) : (termsQ l).length = l.length := by simp [termsQ]
theorem termsQ_take {l : List (Rat × Rat)} {k : Nat} (hk : k < l.length) : (termsQ l).take (k + 1) = (termsQ l).take k ++ [termQ l k] := by
  rw [List.take_succ_eq_append_getElem (by rw [termsQ_len]; exact hk)]
  simp [termsQ]
theorem termQ_at {l : List (Rat × Rat)} {k : Nat} {x y x' y' : Rat} (h : l[k]? = some (x, y)) (h' : l[(k + 1) % l.length]? = some (x', y')) : termQ l k = x * y' - y * x' := by
  unfold termQ
  rw [List.getD_eq_getElem?_getD, List.getD_eq_getElem?_getD, h, h']
  rfl
end Go.Proofs.Ytkcfaddilknelaa
/- The statements' own helpers: short, same, fit. -/
namespace Go.Proofs.Ytkcfaddilknelaa
open Go.RowKit Go.MagM
theorem RMag.zero {w : World} {v : Value} {L : Nat} (h : RMag w v L 0) : ∃ ao c, v = .slice ao 0 c := by
  obtain ⟨ao, n, c, f, rfl, h2, h3, h4, h5, h6⟩ := h
  cases n with
  | zero => exact ⟨ao, c, rfl⟩
  | succ k =>
    exfalso
    have := h6.ge
    have := Bp k
    omega
end Go.Proofs.Ytkcfaddilknelaa
/- Plain mathematics of decimal digits, the lowest first. No program. -/
namespace Go.MagT
/-- Ten. -/
def B : Nat := 10
theorem B_pos : 0 < B := by unfold B; omega
theorem B_gt1 : 1 < B := by unfold B; omega
theorem B_eq : B = 10 := rfl
theorem Bp (n : Nat) : 0 < B ^ n := Nat.pow_pos B_pos
/-- What the first k words count. -/
def V (f : Nat → Nat) : Nat → Nat
  | 0 => 0
  | k + 1 => V f k + f k * B ^ k
theorem V_zero (f : Nat → Nat) : V f 0 = 0 := rfl
theorem V_succ (f : Nat → Nat) (k : Nat) : V f (k + 1) = V f k + f k * B ^ k := rfl
theorem V_congr {f g : Nat → Nat} : ∀ {n : Nat}, (∀ i, i < n → f i = g i) → V f n = V g n
  | 0, _ => rfl
  | n + 1, h => by rw [V_succ, V_succ, V_congr (fun i hi => h i (by omega)), h n (by omega)]
theorem V_lt {f : Nat → Nat} : ∀ {n : Nat}, (∀ i, i < n → f i < B) → V f n < B ^ n
  | 0, _ => by simp [V]
  | n + 1, h => by
    have h1 := V_lt (n := n) (fun i hi => h i (by omega))
    have h2 : f n + 1 ≤ B := h n (by omega)
    have h3 := Nat.mul_le_mul_right (B ^ n) h2
    rw [V_succ, Nat.pow_succ, Nat.mul_comm (B ^ n) B]
    rw [Nat.add_mul] at h3
    omega
theorem V_split (f : Nat → Nat) (a : Nat) : ∀ b : Nat, V f (a + b) = V f a + B ^ a * V (fun i => f (a + i)) b
  | 0 => by simp [V]
  | b + 1 => by
    rw [← Nat.add_assoc, V_succ, V_split f a b, V_succ, Nat.pow_add, Nat.mul_add]
    have : f (a + b) * (B ^ a * B ^ b) = B ^ a * (f (a + b) * B ^ b) := by rw [Nat.mul_left_comm]
    omega
/-- Words that agree from k on: what differs lies below. -/
theorem V_above {f g : Nat → Nat} {k n : Nat} (hk : k ≤ n) (h : ∀ i, k ≤ i → i < n → f i = g i) : V f n + V g k = V g n + V f k := by
  obtain ⟨d, rfl⟩ : ∃ d, n = k + d := ⟨n - k, by omega⟩
  rw [V_split f k d, V_split g k d, V_congr (f := fun i => f (k + i)) (g := fun i => g (k + i)) (fun i hi => h (k + i) (by omega) (by omega))]
  omega
theorem V_le {f : Nat → Nat} {k n : Nat} (h : k ≤ n) : V f k ≤ V f n := by
  obtain ⟨d, rfl⟩ : ∃ d, n = k + d := ⟨n - k, by omega⟩
  rw [V_split]; omega
theorem V_one (f : Nat → Nat) : V f 1 = f 0 := by simp [V]
theorem V_none {f : Nat → Nat} : ∀ {n : Nat}, (∀ i, i < n → f i = 0) → V f n = 0
  | 0, _ => rfl
  | n + 1, h => by rw [V_succ, V_none (fun i hi => h i (by omega)), h n (by omega)]; simp
theorem V_pos {f : Nat → Nat} {n k : Nat} (hk : k < n) (h : 0 < f k) : 0 < V f n := by
  have h1 := V_le (f := f) (show k + 1 ≤ n by omega)
  have h2 := Nat.mul_pos h (Bp k)
  rw [V_succ] at h1; omega
/-- The word k turned. -/
def upd (f : Nat → Nat) (k x : Nat) : Nat → Nat := fun i => if i = k then x else f i
theorem upd_same (f : Nat → Nat) (k x : Nat) : upd f k x k = x := by simp [upd]
theorem upd_other (f : Nat → Nat) (k x : Nat) {i : Nat} (h : i ≠ k) : upd f k x i = f i := by simp [upd, h]
theorem V_upd_below (f : Nat → Nat) (k x : Nat) {n : Nat} (h : n ≤ k) : V (upd f k x) n = V f n := V_congr (fun i hi => upd_other f k x (by omega))
theorem V_upd_succ (f : Nat → Nat) (k x : Nat) : V (upd f k x) (k + 1) = V f k + x * B ^ k := by rw [V_succ, V_upd_below f k x (Nat.le_refl k), upd_same]
/-- How many words are left, when the 0s at the end are struck. -/
def tlen (f : Nat → Nat) : Nat → Nat
  | 0 => 0
  | k + 1 => if f k = 0 then tlen f k else k + 1
theorem tlen_le (f : Nat → Nat) : ∀ k, tlen f k ≤ k
  | 0 => Nat.le_refl _
  | k + 1 => by have := tlen_le f k; unfold tlen; split <;> omega
theorem tlen_V (f : Nat → Nat) : ∀ k, V f (tlen f k) = V f k
  | 0 => rfl
  | k + 1 => by
    unfold tlen; split
    · rename_i h; rw [tlen_V f k, V_succ, h]; simp
    · rfl
/-- Without a 0 at the end. -/
def Right (f : Nat → Nat) (n : Nat) : Prop := ∀ k, n = k + 1 → f k ≠ 0
theorem tlen_right (f : Nat → Nat) : ∀ k, Right f (tlen f k)
  | 0 => fun _ h => by simp [tlen] at h
  | k + 1 => by
    unfold tlen; split
    · exact tlen_right f k
    · rename_i h; intro j hj; have : j = k := by omega
      rw [this]; exact h
theorem tlen_of_right {f : Nat → Nat} {n : Nat} (h : Right f n) : tlen f n = n := by
  cases n with
  | zero => rfl
  | succ k => unfold tlen; rw [if_neg (h k rfl)]
theorem Right.ge {f : Nat → Nat} {k : Nat} (h : Right f (k + 1)) : B ^ k ≤ V f (k + 1) := by
  have h1 : 1 ≤ f k := by have := h k rfl; omega
  have h2 := Nat.mul_le_mul_right (B ^ k) h1
  rw [V_succ]; omega
/-- Fewer words, both right: less. -/
theorem V_lt_of_len {f g : Nat → Nat} {n m : Nat} (hf : ∀ i, i < n → f i < B) (hg : Right g m) (h : n < m) : V f n < V g m := by
  obtain ⟨k, rfl⟩ : ∃ k, m = k + 1 := ⟨m - 1, by omega⟩
  have h1 := V_lt hf
  have h2 : B ^ n ≤ B ^ k := Nat.pow_le_pow_right B_pos (by omega)
  have h3 := hg.ge
  omega
/-- As many words, the same from k + 1 on, less at k: less. -/
theorem V_lt_at {f g : Nat → Nat} {n k : Nat} (hk : k < n) (hf : ∀ i, i < n → f i < B) (ha : ∀ i, k < i → i < n → f i = g i) (h : f k < g k) : V f n < V g n := by
  have h1 := V_above (f := f) (g := g) (k := k + 1) (n := n) (by omega) (fun i a b => ha i (by omega) b)
  have h2 := V_lt (f := f) (n := k) (fun i hi => hf i (by omega))
  have h3 := Nat.mul_le_mul_right (B ^ k) (show f k + 1 ≤ g k from h)
  rw [Nat.add_mul] at h3
  rw [V_succ, V_succ] at h1
  omega
theorem eq_of_V {f g : Nat → Nat} {n : Nat} (hf : ∀ i, i < n → f i < B) (hg : ∀ i, i < n → g i < B) (h : V f n = V g n) : ∀ i, i < n → f i = g i := by
  induction n with
  | zero => intro i hi; omega
  | succ n ih =>
    have h1 := V_lt (f := f) (n := n) (fun i hi => hf i (by omega))
    have h2 := V_lt (f := g) (n := n) (fun i hi => hg i (by omega))
    rw [V_succ, V_succ] at h
    have hm1 : (V f n + f n * B ^ n) % B ^ n = V f n := by rw [Nat.add_mul_mod_self_right, Nat.mod_eq_of_lt h1]
    have hm2 : (V g n + g n * B ^ n) % B ^ n = V g n := by rw [Nat.add_mul_mod_self_right, Nat.mod_eq_of_lt h2]
    have e1 : V f n = V g n := by rw [← hm1, ← hm2, h]
    have e2 : f n = g n := by
      have : f n * B ^ n = g n * B ^ n := by omega
      exact Nat.eq_of_mul_eq_mul_right (Bp n) this
    intro i hi
    by_cases hn : i = n
    · rw [hn]; exact e2
    · exact ih (fun i hi => hf i (by omega)) (fun i hi => hg i (by omega)) e1 i (by omega)
theorem right_unique {f g : Nat → Nat} {n m : Nat} (hf : ∀ i, i < n → f i < B) (hg : ∀ i, i < m → g i < B) (rf : Right f n) (rg : Right g m) (h : V f n = V g m) :
    n = m ∧ ∀ i, i < n → f i = g i := by
  have e : n = m := by
    rcases Nat.lt_trichotomy n m with a | a | a
    · have := V_lt_of_len hf rg a; omega
    · exact a
    · have := V_lt_of_len hg rf a; omega
  subst e
  exact ⟨rfl, eq_of_V hf hg h⟩
theorem len_le_of_lt {f : Nat → Nat} {n L : Nat} (rf : Right f n) (h : V f n < B ^ L) : n ≤ L := by
  cases n with
  | zero => omega
  | succ k =>
    have h1 := rf.ge
    have h2 : B ^ k < B ^ L := by omega
    have := (Nat.pow_lt_pow_iff_right B_gt1).1 h2
    omega
/-- A sum's step: word and carry. -/
theorem sum_step (x y c : Nat) : (x + y + c) % B + (x + y + c) / B * B = x + y + c := by
  have := Nat.mod_add_div (x + y + c) B
  rw [Nat.mul_comm] at this; exact this
theorem sum_carry {x y c : Nat} (hx : x < B) (hy : y < B) (hc : c ≤ 1) : (x + y + c) / B ≤ 1 := by
  unfold B at *; omega
/-- A difference's step: word and borrow. -/
theorem diff_step {x y b : Nat} (hx : x < B) (hy : y < B) (hb : b ≤ 1) : (x + B - y - b) % B + y + b = x + (if x < y + b then 1 else 0) * B := by
  unfold B at *; split <;> omega
theorem mod_lt (x : Nat) : x % B < B := Nat.mod_lt _ B_pos
theorem add_arith {x y c s c' : Nat} (a b d P : Nat) (hs : s + c' * B = x + y + c) (h : a + c * P = b + d) : a + s * P + c' * (P * B) = b + x * P + (d + y * P) := by
  have h1 : (s + c' * B) * P = (x + y + c) * P := by rw [hs]
  simp only [Nat.add_mul] at h1
  have h2 : c' * (P * B) = c' * B * P := by rw [Nat.mul_assoc, Nat.mul_comm B P]
  omega
/-- A product's step: a word, v times x and what came over: word and what goes over. -/
theorem mac {v x over a : Nat} (hv : v < B) (hx : x < B) (ho : over < B) (ha : a < B) :
    v * x / B + (v * x % B + over + 0) / B + (a + (v * x % B + over + 0) % B + 0) / B < B ∧
    (a + (v * x % B + over + 0) % B + 0) % B + (v * x / B + (v * x % B + over + 0) / B + (a + (v * x % B + over + 0) % B + 0) / B) * B = a + v * x + over := by
  have h1 := Nat.mul_le_mul (show v ≤ B - 1 by omega) (show x ≤ B - 1 by omega)
  generalize v * x = p at *
  unfold B at *
  omega
theorem mac_arith {v x over a s over' : Nat} (F G H P : Nat) (hs : s + over' * B = a + v * x + over) (h : F + over * P = G + H * x) : F + s * P + over' * (P * B) = G + a * P + (H + v * P) * x := by
  have h1 : (s + over' * B) * P = (a + v * x + over) * P := by rw [hs]
  simp only [Nat.add_mul] at h1 ⊢
  have h2 : over' * (P * B) = over' * B * P := by rw [Nat.mul_assoc, Nat.mul_comm B P]
  have h3 : v * P * x = v * x * P := by rw [Nat.mul_assoc, Nat.mul_comm P x, ← Nat.mul_assoc]
  omega
/-- .. taken away. -/
theorem msc {v x over a : Nat} (hv : v < B) (hx : x < B) (ho : over < B) (ha : a < B) :
    v * x / B + (v * x % B + over + 0) / B + (if a < (v * x % B + over + 0) % B + 0 then 1 else 0) < B ∧
    (a + B - (v * x % B + over + 0) % B - 0) % B + v * x + over = a + (v * x / B + (v * x % B + over + 0) / B + (if a < (v * x % B + over + 0) % B + 0 then 1 else 0)) * B := by
  have h1 := Nat.mul_le_mul (show v ≤ B - 1 by omega) (show x ≤ B - 1 by omega)
  generalize v * x = p at *
  unfold B at *
  split <;> omega
theorem msc_arith {v x over a s over' : Nat} (F G H P : Nat) (hs : s + v * x + over = a + over' * B) (h : F + H * x = G + over * P) : F + s * P + (H + v * P) * x = G + a * P + over' * (P * B) := by
  have h1 : (s + v * x + over) * P = (a + over' * B) * P := by rw [hs]
  simp only [Nat.add_mul] at h1 ⊢
  have h2 : over' * (P * B) = over' * B * P := by rw [Nat.mul_assoc, Nat.mul_comm B P]
  have h3 : v * P * x = v * x * P := by rw [Nat.mul_assoc, Nat.mul_comm P x, ← Nat.mul_assoc]
  omega
theorem sub_arith {x y b s b' : Nat} (F G H P : Nat) (hs : s + y + b = x + b' * B) (h : F + H = G + b * P) : F + s * P + (H + y * P) = G + x * P + b' * (P * B) := by
  have h1 : (s + y + b) * P = (x + b' * B) * P := by rw [hs]
  simp only [Nat.add_mul] at h1 ⊢
  have h2 : b' * (P * B) = b' * B * P := by rw [Nat.mul_assoc, Nat.mul_comm B P]
  omega
/-- Words k .. k + m - 1 of f put in place by those of h. -/
def spl (f h : Nat → Nat) (k m : Nat) : Nat → Nat := fun i => if k ≤ i ∧ i < k + m then h (i - k) else f i
theorem spl_in (f h : Nat → Nat) {k m i : Nat} (hi : i < m) : spl f h k m (k + i) = h i := by
  unfold spl; rw [if_pos ⟨by omega, by omega⟩]; congr 1; omega
theorem spl_out (f h : Nat → Nat) {k m i : Nat} (hi : i < k ∨ k + m ≤ i) : spl f h k m i = f i := by unfold spl; rw [if_neg (by omega)]
theorem spl_V (f h : Nat → Nat) (k m : Nat) : V (spl f h k m) (k + m) = V f k + B ^ k * V h m := by
  rw [V_split, V_congr (g := f) (fun i hi => spl_out f h (.inl hi)), V_congr (f := fun i => spl f h k m (k + i)) (g := h) (fun i hi => spl_in f h hi)]
theorem mul_arith {F O H x A P : Nat} (a D Q R : Nat) (h1 : F + O * Q = R + H * x) (h2 : a + P * R = A * H) (hD : D = P * Q) : a + P * F + O * D = (A + x * P) * H := by
  have h3 : P * (F + O * Q) = P * (R + H * x) := by rw [h1]
  rw [Nat.mul_add, Nat.mul_add] at h3
  have h4 : P * (O * Q) = O * D := by rw [hD, Nat.mul_left_comm]
  have h5 : x * P * H = P * (H * x) := by rw [Nat.mul_comm x P, Nat.mul_assoc, Nat.mul_comm x H]
  rw [Nat.add_mul]; omega
end Go.MagT
/- Decimal digits in memory; the document's own Add: what it answers. -/
namespace Go.Proofs.Ytkcfaddilknelaa
open Go.RowKit
/-- The slice at ao reads as the digits f 0 .. f (n - 1). -/
def DReads (w : World) (ao : Option Addr) (n : Nat) (f : Nat → Nat) : Prop :=
  ∀ i, i < n → ∃ b o, ao = some ⟨b, o, none⟩ ∧ w.cell? ⟨b, o + i, none⟩ = some (.int .i64 ((f i : Nat) : Int)) ∧ f i < MagT.B
theorem DReads.less {w : World} {ao : Option Addr} {n m : Nat} {f : Nat → Nat} (h : DReads w ao n f) (hm : m ≤ n) : DReads w ao m f := fun i hi => h i (by omega)
theorem DReads.lt {w : World} {ao : Option Addr} {n : Nat} {f : Nat → Nat} (h : DReads w ao n f) : ∀ i, i < n → f i < MagT.B := fun i hi => by obtain ⟨_, _, _, _, h3⟩ := h i hi; exact h3
theorem DReads.below {m : Nat} {w w' : World} {bo : Option Addr} {h : Nat → Nat} (hr : DReads w bo m h) (hb : Below w.heap.size w w') : DReads w' bo m h := by
  intro i hi
  obtain ⟨b', o', e, hc, hl⟩ := hr i hi
  exact ⟨b', o', e, by rw [hb.cell (p := ⟨b', o' + i, none⟩) (World.block_lt_of_cell? w _ hc)]; exact hc, hl⟩
/-- A slice of decimal digits, right, at most L of them, that count N. -/
def Dec (w : World) (v : Value) (L N : Nat) : Prop := ∃ ao n c f, v = .slice ao n c ∧ n ≤ c ∧ n ≤ L ∧ DReads w ao n f ∧ MagT.V f n = N ∧ MagT.Right f n
theorem Dec.below {w w' : World} {v : Value} {L N : Nat} (h : Dec w v L N) (hb : Below w.heap.size w w') : Dec w' v L N := by
  obtain ⟨ao, n, c, f, h1, h2, h3, h4, h5⟩ := h; exact ⟨ao, n, c, f, h1, h2, h3, h4.below hb, h5⟩
theorem Dec.more {w : World} {v : Value} {L L' N : Nat} (h : Dec w v L N) (hL : L ≤ L') : Dec w v L' N := by
  obtain ⟨ao, n, c, f, h1, h2, h3, h4, h5⟩ := h; exact ⟨ao, n, c, f, h1, h2, by omega, h4, h5⟩
theorem Dec.short {w : World} {v : Value} {L N K : Nat} (h : Dec w v L N) (hN : N < MagT.B ^ K) : Dec w v K N := by
  obtain ⟨ao, n, c, f, h1, h2, h3, h4, h5, h6⟩ := h
  exact ⟨ao, n, c, f, h1, h2, MagT.len_le_of_lt h6 (by rw [h5]; exact hN), h4, h5, h6⟩
theorem Dec.of_trim {w : World} {ao : Option Addr} {n c : Nat} {f : Nat → Nat} (hr : DReads w ao n f) (hc : n ≤ c) : Dec w (.slice ao (MagT.tlen f n) c) n (MagT.V f n) :=
  ⟨ao, MagT.tlen f n, c, f, rfl, by have := MagT.tlen_le f n; omega, MagT.tlen_le f n, hr.less (MagT.tlen_le f n), MagT.tlen_V f n, MagT.tlen_right f n⟩
theorem info_int : (Try.prog.info? 3).map (fun i => (i.zero, i.size, i.bytes)) = some (some (.int .i64 0), 1, 8) := by kernel_rfl
/-- The digits that have been gathered. -/
def digs (o : Nat → Nat) (k : Nat) : List Value := (List.range k).map fun i => .int .i64 ((o i : Nat) : Int)
theorem digs_succ (o : Nat → Nat) (k : Nat) : digs o (k + 1) = digs o k ++ [.int .i64 ((o k : Nat) : Int)] := by simp [digs, List.range_succ]
theorem digs_congr {o o' : Nat → Nat} {k : Nat} (h : ∀ i, i < k → o i = o' i) : digs o k = digs o' k := by
  unfold digs; apply List.map_congr_left; intro i hi; rw [h i (by simpa using hi)]
theorem digs_at (o : Nat → Nat) (k i : Nat) (h : i < k) : (digs o k)[i]? = some (.int .i64 ((o i : Nat) : Int)) := by simp [digs, List.getElem?_map, List.getElem?_range h]
/-- What is owned reads as digits. -/
theorem DReads.owned {w : World} {base k : Nat} {v : Value} {o : Nat → Nat} (h : w.ownsRow base 3 1 v k (digs o k)) (ho : ∀ i, i < k → o i < MagT.B) : ∃ ao c, v = .slice ao k c ∧ k ≤ c ∧ DReads w ao k o := by
  have h0 := h
  rcases h.2 with ⟨rfl, rfl⟩ | ⟨g, cap, cur, rfl, _, _, hn, _⟩
  · exact ⟨none, 0, rfl, Nat.le_refl _, fun i hi => by omega⟩
  · refine ⟨_, cap, rfl, hn, fun i hi => ⟨g, 0, rfl, ?_, ho i hi⟩⟩
    have := h0.cellAt i (by omega)
    rw [digs_at o k i hi] at this
    rw [Nat.zero_add]; exact this
end Go.Proofs.Ytkcfaddilknelaa
/- The calls of spot: Area2. -/
namespace Go.Proofs.Ytkcfaddilknelaa
open Go.RowKit Go.MagM
theorem info_frac : (Try.prog.info? 31).map (fun i => (i.zero, i.size, i.bytes)) = some (some (.agg #[.bool false, .slice none 0 0, .slice none 0 0]), 3, 56) := by kernel_rfl
theorem mod_lt_int (k n : Nat) : ((k : Int) + 1).tmod (n : Int) = (((k + 1) % n : Nat) : Int) := by
  rw [show (k : Int) + 1 = ((k + 1 : Nat) : Int) by omega]; exact (Int.ofNat_tmod _ _).symm
theorem areaQ_terms (l : List (Rat × Rat)) : areaQ l = (termsQ l).foldl (· + ·) 0 := rfl
set_option maxRecDepth 100000 in
set_option maxHeartbeats 16000000 in
theorem sArea2_any (ao : Option Addr) (n c : Nat) (l : List (Rat × Rat)) (L : Nat) (w : World) (hn : l.length = n) (hn9 : n ≤ 90) (hL : L ≤ 100000) (hsp : Spots w ao L l) :
    Calls Try.prog 28 #[.slice ao n c] w fun e w' => AnsF w w' e (1 + n * (((L + L + 2) + (L + L + 2) + 2) + 2)) (areaQ l) := by
  have hB_0 := Below.refl w.heap.size w
  have SP := Lib.hid hsp; clear hsp
  obtain ⟨i0, hi, hz0, hz1, hz2⟩ := info_parts info_frac
  have HI := Lib.hid hi; have HZ0 := Lib.hid hz0; have HZ1 := Lib.hid hz1; have HZ2 := Lib.hid hz2
  clear hi hz0 hz1 hz2
  obtain ⟨w1, hw1, pr_0, hb1, hs1⟩ := new_box w (w.heap.size) rfl [.bool false, .slice none 0 0, .slice none 0 0] 31
  have hb1' : Below w.heap.size w w1 := hb1.mono (by omega)
  clear hb1
  have hB_1 := hB_0.trans (hb1'.mono hB_0.size)
  clear hb1' hB_0
  go_enter Try.func28, Try.ntmps28
  go_wp2
  go_loopw [3, 9] (fun pv iv wr => ∃ k : Nat, ∃ xs : List Value, ∃ u : Value, k ≤ n ∧ iv = .int .i64 k ∧ u = pv ∧ RowN wr (w.heap.size + 1) 31 3 u k xs ∧ Fr wr ((L + L + 2) + (L + L + 2) + 2) xs ((termsQ l).take k) ∧ Below w.heap.size w wr ∧ Box wr w.heap.size [.bool false, .slice none 0 0, .slice none 0 0]) (fun _ iv _ => n - (intOf iv).toNat)
  case atStart => exact ⟨0, [], _, Nat.zero_le _, rfl, rfl, RowN.nil _ _ _ _, Fr.nil _ _, hB_1, pr_0⟩
  case round =>
    obtain ⟨k, xs, u, hk, rfl, hu, row_0, fr_0, hB_0, pr_0⟩ := hrel
    subst hu
    by_cases hlt : k < n
    · obtain ⟨x, y, hlk⟩ : ∃ x y, l[k]? = some (x, y) := ⟨_, _, List.getElem?_eq_getElem (by omega)⟩
      obtain ⟨j, hj⟩ : ∃ j, (k + 1) % n = j := ⟨_, rfl⟩
      have hjn : j < n := by rw [← hj]; exact Nat.mod_lt _ (by omega)
      obtain ⟨x', y', hlj⟩ : ∃ x' y', l[j]? = some (x', y') := ⟨_, _, List.getElem?_eq_getElem (by omega)⟩
      obtain ⟨b, o, m1x, o1x, n1x, c1x, p1x, k1x, d1x, m1y, o1y, n1y, c1y, p1y, k1y, d1y, hao, c0, c1, c2, c3, c4, c5, f1x_0, f1y_0⟩ := (SP.out.below hB_0) k x y hlk
      obtain ⟨b', o', m2x, o2x, n2x, c2x, p2x, k2x, d2x, m2y, o2y, n2y, c2y, p2y, k2y, d2y, hao', d0, d1, d2, d3, d4, d5, f2x_0, f2y_0⟩ := (SP.out.below hB_0) j x' y' hlj
      subst hao
      simp at hao'
      obtain ⟨rfl, rfl⟩ := hao'
      have hmod : ((k : Int) + 1).tmod (n : Int) = (j : Int) := by rw [mod_lt_int k n, hj]
      have hn0 : ((n : Int) == 0) = false := by simp; omega
      have hT : termQ l k = x * y' - y * x' := termQ_at hlk (by rw [hn, hj]; exact hlj)
      have HT := Lib.hid hT; clear hT hlk hlj hj
      have hxl : xs.length = ((termsQ l).take k).length * 3 := by rw [row_0.1, List.length_take, termsQ_len]; congr 1; omega
      have HXL := Lib.hid hxl; clear hxl
      have hrl := row_0.lt
      have dd_0 : At6 wr b (o + j * 6) _ _ _ _ _ _ := ⟨d0, d1, d2, d3, d4, d5⟩
      clear d0 d1 d2 d3 d4 d5
      have hl1pr := pr_0.lt
      have hl1B := hB_0.size
      obtain ⟨w2, hw2, ps_0, hb2, hs2⟩ := new_box wr (wr.heap.size) rfl [.bool m1x, .slice o1x n1x c1x, .slice p1x k1x d1x, .bool m1y, .slice o1y n1y c1y, .slice p1y k1y d1y] 33
      have hb2' : Below wr.heap.size wr w2 := hb2.mono (by omega)
      clear hb2
      have hB_1 := hB_0.trans (hb2'.mono hB_0.size)
      have pr_1 := pr_0.below hb2'
      have row_1 := row_0.below hb2'
      have fr_1 := fr_0.below hb2'
      have f1x_1 := f1x_0.below hb2'
      have f1y_1 := f1y_0.below hb2'
      have f2x_1 := f2x_0.below hb2'
      have f2y_1 := f2y_0.below hb2'
      have dd_1 := dd_0.below hb2'
      clear hb2' hB_0 pr_0 row_0 fr_0 f1x_0 f1y_0 f2x_0 f2y_0 dd_0
      obtain ⟨d0, d1, d2, d3, d4, d5⟩ := dd_1
      have hl2pr := pr_1.lt
      have hl2ps := ps_0.lt
      have hl2B := hB_1.size
      obtain ⟨w3, hw3, pn_0, hb3, hs3⟩ := new_box w2 (wr.heap.size + 1) hs2 [.bool m2x, .slice o2x n2x c2x, .slice p2x k2x d2x, .bool m2y, .slice o2y n2y c2y, .slice p2y k2y d2y] 33
      have hb3' : Below w2.heap.size w2 w3 := hb3.mono (by omega)
      clear hb3
      have hB_2 := hB_1.trans (hb3'.mono hB_1.size)
      have pr_2 := pr_1.below hb3'
      have row_2 := row_1.below hb3'
      have fr_2 := fr_1.below hb3'
      have f1x_2 := f1x_1.below hb3'
      have f1y_2 := f1y_1.below hb3'
      have f2x_2 := f2x_1.below hb3'
      have f2y_2 := f2y_1.below hb3'
      have ps_1 := ps_0.below hb3'
      clear hb3' hB_1 pr_1 row_1 fr_1 f1x_1 f1y_1 f2x_1 f2y_1 ps_0
      go_wp2
      try rw [hw2]
      try rw [hw3]
      clear c0 c1 c2 c3 c4 c5 d0 d1 d2 d3 d4 d5
      have hWq_0 := Below.refl w3.heap.size w3
      have hsq : w.heap.size ≤ w3.heap.size := hB_2.size
      have hlqpr := pr_2.lt
      have hlqps := ps_1.lt
      have hlqpn := pn_0.lt
      have hB_3 := hB_2.drew'
      have pr_3 := pr_2.drew
      have row_3 := row_2.drew
      have fr_3 := fr_2.drew
      have f1x_3 := f1x_2.drew
      have f1y_3 := f1y_2.drew
      have f2x_3 := f2x_2.drew
      have f2y_3 := f2y_2.drew
      have ps_2 := ps_1.drew
      have pn_1 := pn_0.drew
      have hWq_1 := hWq_0.drew'
      clear hB_2 pr_2 row_2 fr_2 f1x_2 f1y_2 f2x_2 f2y_2 ps_1 pn_0 hWq_0
      obtain ⟨FFq, hFFq⟩ : ∃ F : World → Prop, ∀ w', F w' ↔ (Below w.heap.size w w' ∧ Box w' (w.heap.size) [.bool false, .slice none 0 0, .slice none 0 0] ∧ RowN w' (w.heap.size + 1) 31 3 u k xs ∧ Fr w' ((L + L + 2) + (L + L + 2) + 2) xs ((termsQ l).take k) ∧ FQ w' (.agg #[.bool m1x, .slice o1x n1x c1x, .slice p1x k1x d1x]) L (x) ∧ FQ w' (.agg #[.bool m1y, .slice o1y n1y c1y, .slice p1y k1y d1y]) L (y) ∧ FQ w' (.agg #[.bool m2x, .slice o2x n2x c2x, .slice p2x k2x d2x]) L (x') ∧ FQ w' (.agg #[.bool m2y, .slice o2y n2y c2y, .slice p2y k2y d2y]) L (y') ∧ Box w' (wr.heap.size) [.bool m1x, .slice o1x n1x c1x, .slice p1x k1x d1x, .bool m1y, .slice o1y n1y c1y, .slice p1y k1y d1y] ∧ Box w' (wr.heap.size + 1) [.bool m2x, .slice o2x n2x c2x, .slice p2x k2x d2x, .bool m2y, .slice o2y n2y c2y, .slice p2y k2y d2y] ∧ Below w3.heap.size w3 w') := ⟨_, fun _ => Iff.rfl⟩
      have cFq : ∀ {w' w'' : World}, FFq w' → Below w'.heap.size w' w'' → FFq w'' := by
        intro w' w'' h hb
        obtain ⟨y0, y1, y2, y3, y4, y5, y6, y7, y8, y9, y10⟩ := (hFFq _).1 h
        exact (hFFq _).2 ⟨y0.trans (hb.mono y0.size), y1.below hb, y2.below hb, y3.below hb, y4.below hb, y5.below hb, y6.below hb, y7.below hb, y8.below hb, y9.below hb, y10.trans (hb.mono y10.size)⟩
      have mFq : ∀ {w' : World}, FFq w' → w3.heap.size ≤ w'.heap.size := by
        intro w' h
        obtain ⟨y0, y1, y2, y3, y4, y5, y6, y7, y8, y9, y10⟩ := (hFFq _).1 h
        exact y10.size
      have sFq : ∀ {w' : World}, FFq w' → (w'.cell? ⟨wr.heap.size, 0, none⟩ = some (.bool m1x) ∧ w'.cell? ⟨wr.heap.size, 1, none⟩ = some (.slice o1x n1x c1x) ∧ w'.cell? ⟨wr.heap.size, 2, none⟩ = some (.slice p1x k1x d1x) ∧ w'.cell? ⟨wr.heap.size, 3, none⟩ = some (.bool m1y) ∧ w'.cell? ⟨wr.heap.size, 4, none⟩ = some (.slice o1y n1y c1y) ∧ w'.cell? ⟨wr.heap.size, 5, none⟩ = some (.slice p1y k1y d1y) ∧ w'.cell? ⟨wr.heap.size + 1, 0, none⟩ = some (.bool m2x) ∧ w'.cell? ⟨wr.heap.size + 1, 1, none⟩ = some (.slice o2x n2x c2x) ∧ w'.cell? ⟨wr.heap.size + 1, 2, none⟩ = some (.slice p2x k2x d2x) ∧ w'.cell? ⟨wr.heap.size + 1, 3, none⟩ = some (.bool m2y) ∧ w'.cell? ⟨wr.heap.size + 1, 4, none⟩ = some (.slice o2y n2y c2y) ∧ w'.cell? ⟨wr.heap.size + 1, 5, none⟩ = some (.slice p2y k2y d2y)) := by
        intro w' h
        obtain ⟨y0, y1, y2, y3, y4, y5, y6, y7, y8, y9, y10⟩ := (hFFq _).1 h
        exact ⟨y8.c0, y8.c1, y8.c2, y8.c3, y8.c4, y8.c5, y9.c0, y9.c1, y9.c2, y9.c3, y9.c4, y9.c5⟩
      have zF : FFq w3.drew := (hFFq _).2 ⟨hB_3, pr_3, row_3, fr_3, f1x_3, f1y_3, f2x_3, f2y_3, ps_2, pn_1, hWq_1⟩
      clear hB_3 pr_3 row_3 fr_3 f1x_3 f1y_3 f2x_3 f2y_3 ps_2 pn_1 hWq_1
      refine wp_region_noPanic ?_
      refine wp_region_held_drew (S := fun w' => w'.cell? ⟨wr.heap.size, 0, none⟩ = some (.bool m1x) ∧ w'.cell? ⟨wr.heap.size, 1, none⟩ = some (.slice o1x n1x c1x) ∧ w'.cell? ⟨wr.heap.size, 2, none⟩ = some (.slice p1x k1x d1x) ∧ w'.cell? ⟨wr.heap.size, 3, none⟩ = some (.bool m1y) ∧ w'.cell? ⟨wr.heap.size, 4, none⟩ = some (.slice o1y n1y c1y) ∧ w'.cell? ⟨wr.heap.size, 5, none⟩ = some (.slice p1y k1y d1y) ∧ w'.cell? ⟨wr.heap.size + 1, 0, none⟩ = some (.bool m2x) ∧ w'.cell? ⟨wr.heap.size + 1, 1, none⟩ = some (.slice o2x n2x c2x) ∧ w'.cell? ⟨wr.heap.size + 1, 2, none⟩ = some (.slice p2x k2x d2x) ∧ w'.cell? ⟨wr.heap.size + 1, 3, none⟩ = some (.bool m2y) ∧ w'.cell? ⟨wr.heap.size + 1, 4, none⟩ = some (.slice o2y n2y c2y) ∧ w'.cell? ⟨wr.heap.size + 1, 5, none⟩ = some (.slice p2y k2y d2y)) (by kernel_rfl) (sFq zF) (fun hHeld => ?_)
      refine reg_take 0 ?_ ?_ ?_ (by kernel_rfl) (by kernel_rfl) (by kernel_rfl) (fun _ _ _ h => h) ?_ ?_ (by assumption) ?_
      rotate_left 2
      · simp only [List.getElem?_toArray, List.getElem?_cons_zero]; exact rfl
      · rfl
      · intro w hSw; (try dsimp only at hSw); go_simp; try with_reducible rfl
      try simp only [Act.put]
      try simp only [List.setIfInBounds_toArray, List.set_cons_zero, List.set_cons_succ]
      refine reg_take 1 ?_ ?_ ?_ (by kernel_rfl) (by kernel_rfl) (by kernel_rfl) (fun _ _ _ h => h) ?_ ?_ (by assumption) ?_
      rotate_left 2
      · simp only [List.getElem?_toArray, List.getElem?_cons_succ, List.getElem?_cons_zero]; exact rfl
      · rfl
      · intro w hSw; (try dsimp only at hSw); go_simp; try with_reducible rfl
      try simp only [Act.put]
      try simp only [List.setIfInBounds_toArray, List.set_cons_zero, List.set_cons_succ]
      refine reg_take 2 ?_ ?_ ?_ (by kernel_rfl) (by kernel_rfl) (by kernel_rfl) (fun _ _ _ h => h) ?_ ?_ (by assumption) ?_
      rotate_left 2
      · simp only [List.getElem?_toArray, List.getElem?_cons_succ, List.getElem?_cons_zero]; exact rfl
      · rfl
      · intro w hSw; (try dsimp only at hSw); go_simp; try with_reducible rfl
      try simp only [Act.put]
      try simp only [List.setIfInBounds_toArray, List.set_cons_zero, List.set_cons_succ]
      refine reg_take 3 ?_ ?_ ?_ (by kernel_rfl) (by kernel_rfl) (by kernel_rfl) (fun _ _ _ h => h) ?_ ?_ (by assumption) ?_
      rotate_left 2
      · simp only [List.getElem?_toArray, List.getElem?_cons_succ, List.getElem?_cons_zero]; exact rfl
      · rfl
      · intro w hSw; (try dsimp only at hSw); go_simp; try with_reducible rfl
      try simp only [Act.put]
      try simp only [List.setIfInBounds_toArray, List.set_cons_zero, List.set_cons_succ]
      refine reg_take 4 ?_ ?_ ?_ (by kernel_rfl) (by kernel_rfl) (by kernel_rfl) (fun _ _ _ h => h) ?_ ?_ (by assumption) ?_
      rotate_left 2
      · simp only [List.getElem?_toArray, List.getElem?_cons_succ, List.getElem?_cons_zero]; exact rfl
      · rfl
      · intro w hSw; (try dsimp only at hSw); go_simp; try with_reducible rfl
      try simp only [Act.put]
      try simp only [List.setIfInBounds_toArray, List.set_cons_zero, List.set_cons_succ]
      refine reg_take 6 ?_ ?_ ?_ (by kernel_rfl) (by kernel_rfl) (by kernel_rfl) (fun _ _ _ h => h) ?_ ?_ (by assumption) ?_
      rotate_left 2
      · simp only [List.getElem?_toArray, List.getElem?_cons_succ, List.getElem?_cons_zero]; exact rfl
      · rfl
      · intro w hSw; (try dsimp only at hSw); go_simp; try with_reducible rfl
      try simp only [Act.put]
      try simp only [List.setIfInBounds_toArray, List.set_cons_zero, List.set_cons_succ]
      refine reg_take 7 ?_ ?_ ?_ (by kernel_rfl) (by kernel_rfl) (by kernel_rfl) (fun _ _ _ h => h) ?_ ?_ (by assumption) ?_
      rotate_left 2
      · simp only [List.getElem?_toArray, List.getElem?_cons_succ, List.getElem?_cons_zero]; exact rfl
      · rfl
      · intro w hSw; (try dsimp only at hSw); go_simp; try with_reducible rfl
      try simp only [Act.put]
      try simp only [List.setIfInBounds_toArray, List.set_cons_zero, List.set_cons_succ]
      refine reg_take 8 ?_ ?_ ?_ (by kernel_rfl) (by kernel_rfl) (by kernel_rfl) (fun _ _ _ h => h) ?_ ?_ (by assumption) ?_
      rotate_left 2
      · simp only [List.getElem?_toArray, List.getElem?_cons_succ, List.getElem?_cons_zero]; exact rfl
      · rfl
      · intro w hSw; (try dsimp only at hSw); go_simp; try with_reducible rfl
      try simp only [Act.put]
      try simp only [List.setIfInBounds_toArray, List.set_cons_zero, List.set_cons_succ]
      refine reg_take 9 ?_ ?_ ?_ (by kernel_rfl) (by kernel_rfl) (by kernel_rfl) (fun _ _ _ h => h) ?_ ?_ (by assumption) ?_
      rotate_left 2
      · simp only [List.getElem?_toArray, List.getElem?_cons_succ, List.getElem?_cons_zero]; exact rfl
      · rfl
      · intro w hSw; (try dsimp only at hSw); go_simp; try with_reducible rfl
      try simp only [Act.put]
      try simp only [List.setIfInBounds_toArray, List.set_cons_zero, List.set_cons_succ]
      refine reg_grab (fun WWq aq hWW hAA => ?_)
      rw [hWW]
      have HAq := Lib.hid hAA; clear hWW hAA hHeld
      obtain ⟨IVq, hIVq⟩ : ∃ IV : Array Bool → Act → World → Prop, ∀ l a w', IV l a w' ↔ ∃ (lb5 lb10 lb11 lb12 : Bool) (lv5 lv10 lv11 lv12 : Value) (m3 : Bool) (o3 : Option Addr) (n3 : Nat) (c3 : Nat) (p3 : Option Addr) (k3 : Nat) (d3 : Nat) (m4 : Bool) (o4 : Option Addr) (n4 : Nat) (c4 : Nat) (p4 : Option Addr) (k4 : Nat) (d4 : Nat) (m5 : Bool) (o5 : Option Addr) (n5 : Nat) (c5 : Nat) (p5 : Option Addr) (k5 : Nat) (d5 : Nat) (gpq : Nat), l = #[true, true, true, true, true, lb5, true, true, true, true, lb10, lb11, lb12, false, false] ∧ a = ((((aq.put (some 27) lv5).put (some 32) lv10).put (some 33) lv11).put (some 34) lv12) ∧ FFq w' ∧ (lb5 = true → lv5 = .agg #[.bool m3, .slice o3 n3 c3, .slice p3 k3 d3] ∧ RF w' (.agg #[.bool m3, .slice o3 n3 c3, .slice p3 k3 d3]) (L + L + 2) (x * y')) ∧ (lb10 = true → lv10 = .agg #[.bool m4, .slice o4 n4 c4, .slice p4 k4 d4] ∧ RF w' (.agg #[.bool m4, .slice o4 n4 c4, .slice p4 k4 d4]) (L + L + 2) (y * x')) ∧ (lb11 = true → lv11 = .agg #[.bool m5, .slice o5 n5 c5, .slice p5 k5 d5] ∧ RF w' (.agg #[.bool m5, .slice o5 n5 c5, .slice p5 k5 d5]) ((L + L + 2) + (L + L + 2) + 2) (x * y' - y * x')) ∧ (lb12 = true → lv12 = .slice (some ⟨gpq, 0, none⟩) 1 1 ∧ Box w' gpq [.bool m5, .slice o5 n5 c5, .slice p5 k5 d5] ∧ w3.heap.size ≤ gpq) ∧ (lb10 = true → lb5 = true) ∧ (lb11 = true → lb5 = true) ∧ (lb11 = true → lb10 = true) ∧ (lb12 = true → lb11 = true) := ⟨_, fun _ _ _ => Iff.rfl⟩
      refine wpAnyH_until IVq ?_ _ _ _ _ ((hIVq _ _ _).2 ⟨false, false, false, false, (aq.tmps.getD 27 undef), (aq.tmps.getD 32 undef), (aq.tmps.getD 33 undef), (aq.tmps.getD 34 undef), false, none, 0, 0, none, 0, 0, false, none, 0, 0, none, 0, 0, false, none, 0, 0, none, 0, 0, 0, rfl, (by simp only [put_same]), zF, (fun h => by cases h), (fun h => by cases h), (fun h => by cases h), (fun h => by cases h), (fun h => by cases h), (fun h => by cases h), (fun h => by cases h), (fun h => by cases h)⟩) (by kernel_rfl)
      clear zF
      intro ll aa w4 hI
      obtain ⟨lb5, lb10, lb11, lb12, lv5, lv10, lv11, lv12, m3, o3, n3, c3, p3, k3, d3, m4, o4, n4, c4, p4, k4, d4, m5, o5, n5, c5, p5, k5, d5, gpq, rfl, rfl, zF, F5, F10, F11, F12, dp10_5, dp11_5, dp11_10, dp12_11⟩ := (hIVq _ _ _).1 hI
      clear hI
      by_cases hL : lb5 = true ∧ lb10 = true ∧ lb11 = true ∧ lb12 = true
      · left
        obtain ⟨rfl, rfl, rfl, rfl⟩ := hL
        obtain ⟨rfl, f3_0⟩ := F5 rfl
        clear F5
        obtain ⟨rfl, f4_0⟩ := F10 rfl
        clear F10
        obtain ⟨rfl, f5_0⟩ := F11 rfl
        clear F11
        obtain ⟨rfl, pq_0, hgpq⟩ := F12 rfl
        clear F12
        clear dp10_5 dp11_5 dp11_10 dp12_11
        show wpAnyH _ _ _ _ _ 2 _ _ _
        rw [HAq.out]
        try simp only [Act.put]
        try simp only [List.setIfInBounds_toArray, List.set_cons_zero, List.set_cons_succ]
        obtain ⟨hB_0, pr_0, row_0, fr_0, f1x_0, f1y_0, f2x_0, f2y_0, ps_0, pn_0, hWq_0⟩ := (hFFq _).1 zF
        clear zF
        clear hWq_0
        refine reg_call 13 ?_ (by kernel_rfl) ?_ (fun K hK => ?_)
        rotate_left 1
        · simp only [List.getElem?_toArray, List.getElem?_cons_succ, List.getElem?_cons_zero]; exact rfl
        refine wanted_go rfl ?_
        have hzpr := pr_0.lt
        have hzps := ps_0.lt
        have hzpn := pn_0.lt
        have hzpq := pq_0.lt
        obtain ⟨pv1, wa, hrun, rown, hgrow, hkept⟩ := run_append_row (P := Try.prog) w4 (w.heap.size + 1) 69 69 31 i0 (.agg #[.bool false, .slice none 0 0, .slice none 0 0]) 3 56 (by kernel_rfl) HI.out HZ0.out HZ1.out HZ2.out rfl (noWord3 _ _ _ _ _ _ _) u k xs row_0 ⟨gpq, 0, none⟩ 1 1 [.bool m5, .slice o5 n5 c5, .slice p5 k5 d5] (by omega) rfl pq_0.news (by intro u hu; simp at hu; rcases hu with rfl | rfl | rfl <;> rfl) (noWord3 _ _ _ _ _ _ _) (by unfold maxLen; omega) (by omega) (by have := hB_0.size; omega)
        refine wp_append_row _ _ 69 rfl rfl rfl hrun ?_
        clear row_0 hrun
        have hB_1 := hB_0.grown hgrow (by have := hB_0.size; omega) (fun k hk => by have := hrl k hk; omega)
        have pr_1 := pr_0.grown hgrow (fun e => by have := hrl _ e; omega) pr_0.lt
        have fr_1 := fr_0.kept hkept
        have f1x_1 := f1x_0.kept hkept
        have f1y_1 := f1y_0.kept hkept
        have f2x_1 := f2x_0.kept hkept
        have f2y_1 := f2y_0.kept hkept
        have ps_1 := ps_0.grown hgrow (fun e => by have := hrl _ e; omega) ps_0.lt
        have pn_1 := pn_0.grown hgrow (fun e => by have := hrl _ e; omega) pn_0.lt
        have f3_1 := f3_0.kept hkept
        have f4_1 := f4_0.kept hkept
        have f5_1 := f5_0.kept hkept
        have pq_1 := pq_0.grown hgrow (fun e => by have := hrl _ e; omega) pq_0.lt
        clear hB_0 pr_0 fr_0 f1x_0 f1y_0 f2x_0 f2y_0 ps_0 pn_0 f3_0 f4_0 f5_0 pq_0
        clear hgrow hkept
        refine hK.out _ _ ⟨ps_1.c0, ps_1.c1, ps_1.c2, ps_1.c3, ps_1.c4, ps_1.c5, pn_1.c0, pn_1.c1, pn_1.c2, pn_1.c3, pn_1.c4, pn_1.c5⟩ (fun hHeld => ?_)
        clear hK K
        try simp only [Act.put]
        try simp only [List.setIfInBounds_toArray, List.set_cons_zero, List.set_cons_succ]
        refine reg_take 14 ?_ ?_ ?_ (by kernel_rfl) (by kernel_rfl) (by kernel_rfl) (fun _ _ _ h => h) ?_ ?_ (by assumption) ?_
        rotate_left 2
        · simp only [List.getElem?_toArray, List.getElem?_cons_succ, List.getElem?_cons_zero]; exact rfl
        · rfl
        · intro w hSw; (try dsimp only at hSw); go_simp; try with_reducible rfl
        try simp only [Act.put]
        try simp only [List.setIfInBounds_toArray, List.set_cons_zero, List.set_cons_succ]
        refine wpAnyH_done (by kernel_rfl) ?_ _
        refine NoPanic.normal ?_
        go_wp2
        refine ⟨⟨k + 1, _, _, by omega, by go_num, rfl, rown, ?_, hB_1, pr_1⟩, by simp [intOf]; omega⟩
        rw [termsQ_take (by omega), HT.out]
        exact Fr.snoc fr_1 HXL.out f5_1
      · right
        refine ⟨?_, fun i hi => ?_⟩
        · clear zF F5 F10 F11 F12
          cases lb5
          · exact ready_of 5 _ rfl rfl (by kernel_rfl)
          cases lb10
          · exact ready_of 10 _ rfl rfl (by kernel_rfl)
          cases lb11
          · exact ready_of 11 _ rfl rfl (by kernel_rfl)
          cases lb12
          · exact ready_of 12 _ rfl rfl (by kernel_rfl)
          exact absurd ⟨rfl, rfl, rfl, rfl⟩ hL
        have hd : (lb5 = false ∧ i = 5) ∨ (lb10 = false ∧ lb5 = true ∧ i = 10) ∨ (lb11 = false ∧ lb5 = true ∧ lb10 = true ∧ i = 11) ∨ (lb12 = false ∧ lb11 = true ∧ i = 12) := by
          have hin := ready_lt hi
          obtain rfl | rfl | rfl | rfl | rfl | rfl | rfl | rfl | rfl | rfl | rfl | rfl | rfl | rfl | rfl : i = 0 ∨ i = 1 ∨ i = 2 ∨ i = 3 ∨ i = 4 ∨ i = 5 ∨ i = 6 ∨ i = 7 ∨ i = 8 ∨ i = 9 ∨ i = 10 ∨ i = 11 ∨ i = 12 ∨ i = 13 ∨ i = 14 := by have hin' : i < 15 := hin; omega
          · exact absurd (ready_off hi) (fun h => Bool.noConfusion (show true = false from h))
          · exact absurd (ready_off hi) (fun h => Bool.noConfusion (show true = false from h))
          · exact absurd (ready_off hi) (fun h => Bool.noConfusion (show true = false from h))
          · exact absurd (ready_off hi) (fun h => Bool.noConfusion (show true = false from h))
          · exact absurd (ready_off hi) (fun h => Bool.noConfusion (show true = false from h))
          · exact .inl ⟨ready_off hi, rfl⟩
          · exact absurd (ready_off hi) (fun h => Bool.noConfusion (show true = false from h))
          · exact absurd (ready_off hi) (fun h => Bool.noConfusion (show true = false from h))
          · exact absurd (ready_off hi) (fun h => Bool.noConfusion (show true = false from h))
          · exact absurd (ready_off hi) (fun h => Bool.noConfusion (show true = false from h))
          · exact .inr (.inl ⟨ready_off hi, ready_dep (d := 5) hi (by kernel_rfl), rfl⟩)
          · exact .inr (.inr (.inl ⟨ready_off hi, ready_dep (d := 5) hi (by kernel_rfl), ready_dep (d := 10) hi (by kernel_rfl), rfl⟩))
          · exact .inr (.inr (.inr (⟨ready_off hi, ready_dep (d := 11) hi (by kernel_rfl), rfl⟩)))
          · have k12 : lb12 = true := ready_dep (d := 12) hi (by kernel_rfl); have k11 : lb11 = true := ready_dep (d := 11) hi (by kernel_rfl)
            have k5 := dp11_5 k11
            have k10 := dp11_10 k11
            exact absurd ⟨k5, k10, k11, k12⟩ hL
          · exact absurd (ready_dep (d := 13) hi (by kernel_rfl)) (fun h => Bool.noConfusion (show false = true from h))
        clear hi hL
        rcases hd with ⟨rfl, rfl⟩ | ⟨rfl, rfl, rfl⟩ | ⟨rfl, rfl, rfl, rfl⟩ | ⟨rfl, rfl, rfl⟩
        · obtain ⟨-, -, -, -, f1x_0, -, -, f2y_0, -, -, -⟩ := (hFFq _).1 zF
          refine step_of 5 ?_ ?_ (fun K hK => ?_)
          rotate_left 1
          · simp only [List.getElem?_toArray, List.getElem?_cons_succ, List.getElem?_cons_zero]; exact rfl
          rw [HAq.out]
          try simp only [Act.put]
          try simp only [List.setIfInBounds_toArray, List.set_cons_zero, List.set_cons_succ]
          go_simp
          refine (qMul _ _ L L x y' _ (by omega) (by omega) f1x_0 f2y_0).mono ?_
          rintro e w5 ⟨m3, o3, n3, c3, p3, k3, d3, rfl, f3_0, hb⟩
          go_wp2_with fail
          refine hK.out _ _ (sFq (cFq zF hb)) ?_
          exact (hIVq _ _ _).2 ⟨true, lb10, lb11, lb12, (.agg #[.bool m3, .slice o3 n3 c3, .slice p3 k3 d3]), lv10, lv11, lv12, m3, o3, n3, c3, p3, k3, d3, m4, o4, n4, c4, p4, k4, d4, m5, o5, n5, c5, p5, k5, d5, gpq, rfl, (by simp only [HAq.out, Act.put, List.setIfInBounds_toArray, List.set_cons_zero, List.set_cons_succ]), (cFq zF hb), (fun _ => ⟨rfl, f3_0⟩), (fun h => absurd (dp10_5 h) (by decide)), (fun h => absurd (dp11_5 h) (by decide)), (fun h => absurd (dp11_5 (dp12_11 h)) (by decide)), (fun _ => rfl), (fun _ => rfl), dp11_10, dp12_11⟩
        · obtain ⟨rfl, f3_0⟩ := F5 rfl
          clear F5
          obtain ⟨-, -, -, -, -, f1y_0, f2x_0, -, -, -, -⟩ := (hFFq _).1 zF
          refine step_of 10 ?_ ?_ (fun K hK => ?_)
          rotate_left 1
          · simp only [List.getElem?_toArray, List.getElem?_cons_succ, List.getElem?_cons_zero]; exact rfl
          rw [HAq.out]
          try simp only [Act.put]
          try simp only [List.setIfInBounds_toArray, List.set_cons_zero, List.set_cons_succ]
          go_simp
          refine (qMul _ _ L L y x' _ (by omega) (by omega) f1y_0 f2x_0).mono ?_
          rintro e w6 ⟨m4, o4, n4, c4, p4, k4, d4, rfl, f4_0, hb⟩
          go_wp2_with fail
          refine hK.out _ _ (sFq (cFq zF hb)) ?_
          exact (hIVq _ _ _).2 ⟨true, true, lb11, lb12, _, (.agg #[.bool m4, .slice o4 n4 c4, .slice p4 k4 d4]), lv11, lv12, m3, o3, n3, c3, p3, k3, d3, m4, o4, n4, c4, p4, k4, d4, m5, o5, n5, c5, p5, k5, d5, gpq, rfl, (by simp only [HAq.out, Act.put, List.setIfInBounds_toArray, List.set_cons_zero, List.set_cons_succ]), (cFq zF hb), (fun _ => ⟨rfl, f3_0.below hb⟩), (fun _ => ⟨rfl, f4_0⟩), (fun h => absurd (dp11_10 h) (by decide)), (fun h => absurd (dp11_10 (dp12_11 h)) (by decide)), (fun _ => rfl), (fun _ => rfl), (fun _ => rfl), dp12_11⟩
        · obtain ⟨rfl, f3_0⟩ := F5 rfl
          clear F5
          obtain ⟨rfl, f4_0⟩ := F10 rfl
          clear F10
          refine step_of 11 ?_ ?_ (fun K hK => ?_)
          rotate_left 1
          · simp only [List.getElem?_toArray, List.getElem?_cons_succ, List.getElem?_cons_zero]; exact rfl
          rw [HAq.out]
          try simp only [Act.put]
          try simp only [List.setIfInBounds_toArray, List.set_cons_zero, List.set_cons_succ]
          go_simp
          refine (qSub _ _ (L + L + 2) (L + L + 2) _ _ _ (by omega) (by omega) f3_0.q f4_0.q).mono ?_
          rintro e w7 ⟨m5, o5, n5, c5, p5, k5, d5, rfl, f5_0, hb⟩
          go_wp2_with fail
          refine hK.out _ _ (sFq (cFq zF hb)) ?_
          exact (hIVq _ _ _).2 ⟨true, true, true, lb12, _, _, (.agg #[.bool m5, .slice o5 n5 c5, .slice p5 k5 d5]), lv12, m3, o3, n3, c3, p3, k3, d3, m4, o4, n4, c4, p4, k4, d4, m5, o5, n5, c5, p5, k5, d5, gpq, rfl, (by simp only [HAq.out, Act.put, List.setIfInBounds_toArray, List.set_cons_zero, List.set_cons_succ]), (cFq zF hb), (fun _ => ⟨rfl, f3_0.below hb⟩), (fun _ => ⟨rfl, f4_0.below hb⟩), (fun _ => ⟨rfl, f5_0⟩), (fun h => absurd (dp12_11 h) (by decide)), (fun _ => rfl), (fun _ => rfl), (fun _ => rfl), (fun _ => rfl)⟩
        · obtain rfl := dp11_5 rfl
          obtain rfl := dp11_10 rfl
          obtain ⟨rfl, f3_0⟩ := F5 rfl
          clear F5
          obtain ⟨rfl, f4_0⟩ := F10 rfl
          clear F10
          obtain ⟨rfl, f5_0⟩ := F11 rfl
          clear F11
          refine step_of 12 ?_ ?_ (fun K hK => ?_)
          rotate_left 1
          · simp only [List.getElem?_toArray, List.getElem?_cons_succ, List.getElem?_cons_zero]; exact rfl
          rw [HAq.out]
          try simp only [Act.put]
          try simp only [List.setIfInBounds_toArray, List.set_cons_zero, List.set_cons_succ]
          go_simp
          have hgn := mFq zF
          obtain ⟨wn, hwn, pq_0, hb, -⟩ := new_box w4 _ rfl [.bool m5, .slice o5 n5 c5, .slice p5 k5 d5] 31
          rw [hwn]
          refine hK.out _ _ (sFq (cFq zF hb)) ?_
          exact (hIVq _ _ _).2 ⟨true, true, true, true, _, _, _, (.slice (some ⟨w4.heap.size, 0, none⟩) 1 1), m3, o3, n3, c3, p3, k3, d3, m4, o4, n4, c4, p4, k4, d4, m5, o5, n5, c5, p5, k5, d5, w4.heap.size, rfl, (by simp only [HAq.out, Act.put, List.setIfInBounds_toArray, List.set_cons_zero, List.set_cons_succ]), (cFq zF hb), (fun _ => ⟨rfl, f3_0.below hb⟩), (fun _ => ⟨rfl, f4_0.below hb⟩), (fun _ => ⟨rfl, f5_0.below hb⟩), (fun _ => ⟨rfl, pq_0, hgn⟩), (fun _ => rfl), (fun _ => rfl), (fun _ => rfl), (fun _ => rfl)⟩
    · obtain rfl : k = n := by omega
      have htk : (termsQ l).take k = termsQ l := by rw [List.take_of_length_le]; rw [termsQ_len, hn]; exact Nat.le_refl _
      rw [htk] at fr_0
      obtain ⟨ao', c', rfl, hfr⟩ := fr_0.fracs row_0 (by rw [termsQ_len, hn])
      have HFR := Lib.hid hfr; clear hfr htk hlt
      clear row_0 fr_0
      go_wp2_with fail
      refine (fSum_go ao' k c' _ _ (by rw [List.length_map, termsQ_len, hn]) hn9 (fun L' X D hm => by simp at hm; obtain ⟨_, _, rfl, _⟩ := hm; omega) HFR.out).mono ?_
      rintro e w2 ⟨m1, o1, n1, c1, p1, k1, d1, rfl, f1_0, hb2⟩
      have hB_1 := hB_0.trans (hb2.mono hB_0.size)
      have pr_1 := pr_0.below hb2
      clear hb2 hB_0 pr_0
      obtain ⟨sf1a, sf1b, sf1c, sf1d, sf1e, sf1f⟩ := pr_1.open3
      obtain ⟨sg1a, sg1b, sg1c, sg1d⟩ := Box.put3 pr_1 (.bool m1) (.slice o1 n1 c1)
      go_wp2
      clear sf1a sf1b sf1c sf1d sf1e sf1f sg1a sg1b sg1c sg1d
      have hB_2 := below_setAll hB_1 (g := w.heap.size) (by omega) [.bool m1, .slice o1 n1 c1, .slice p1 k1 d1]
      have f1_1 := f1_0.setAll pr_1 (noWord3 _ _ _ _ _ _ _) [.bool m1, .slice o1 n1 c1, .slice p1 k1 d1] rfl
      have pr_2 := pr_1.setAll [.bool m1, .slice o1 n1 c1, .slice p1 k1 d1] rfl
      simp only [setAll, Nat.zero_add, Nat.reduceAdd] at hB_2 pr_2 f1_1
      clear hB_1 f1_0 pr_1
      generalize (World.setCell (World.setCell (World.setCell w2 ⟨w.heap.size, 0, none⟩ (.bool m1)) ⟨w.heap.size, 1, none⟩ (.slice o1 n1 c1)) ⟨w.heap.size, 2, none⟩ (.slice p1 k1 d1)) = w3 at *
      go_wp2
      obtain ⟨pre0, pre1, pre2, pre3, pre4, pre5⟩ := pr_2.open3
      exact bodyPost_ret (v := .agg #[.bool m1, .slice o1 n1 c1, .slice p1 k1 d1]) (by simp [results, Try.results28, go_sem, pre0, pre1, pre2]) rfl ⟨_, _, _, _, _, _, _, rfl, (f1_1.of (by rw [fVal_map]; rfl)).more (by rw [fLen_map, termsQ_len, hn]; exact Nat.le_refl _), hB_2⟩
end Go.Proofs.Ytkcfaddilknelaa
/- Three Spots, three Fracs in a box; their Area2, their Sum. -/
namespace Go.Proofs.Ytkcfaddilknelaa
open Go.RowKit Go.MagM
theorem spots3 {w : World} {g : Nat} {axm : Bool} {axo : Option Addr} {axn axc : Nat} {axp : Option Addr} {axk axd : Nat} {aym : Bool} {ayo : Option Addr} {ayn ayc : Nat} {ayp : Option Addr} {ayk ayd : Nat} {bxm : Bool} {bxo : Option Addr} {bxn bxc : Nat} {bxp : Option Addr} {bxk bxd : Nat} {bym : Bool} {byo : Option Addr} {byn byc : Nat} {byp : Option Addr} {byk byd : Nat} {vxm : Bool} {vxo : Option Addr} {vxn vxc : Nat} {vxp : Option Addr} {vxk vxd : Nat} {vym : Bool} {vyo : Option Addr} {vyn vyc : Nat} {vyp : Option Addr} {vyk vyd : Nat} {L : Nat} {axq ayq bxq byq vxq vyq : Rat} (h : Box w g [.bool axm, .slice axo axn axc, .slice axp axk axd, .bool aym, .slice ayo ayn ayc, .slice ayp ayk ayd, .bool bxm, .slice bxo bxn bxc, .slice bxp bxk bxd, .bool bym, .slice byo byn byc, .slice byp byk byd, .bool vxm, .slice vxo vxn vxc, .slice vxp vxk vxd, .bool vym, .slice vyo vyn vyc, .slice vyp vyk vyd]) (fax_0 : FQ w (.agg #[.bool axm, .slice axo axn axc, .slice axp axk axd]) L axq) (fay_0 : FQ w (.agg #[.bool aym, .slice ayo ayn ayc, .slice ayp ayk ayd]) L ayq) (fbx_0 : FQ w (.agg #[.bool bxm, .slice bxo bxn bxc, .slice bxp bxk bxd]) L bxq) (fby_0 : FQ w (.agg #[.bool bym, .slice byo byn byc, .slice byp byk byd]) L byq) (fvx_0 : FQ w (.agg #[.bool vxm, .slice vxo vxn vxc, .slice vxp vxk vxd]) L vxq) (fvy_0 : FQ w (.agg #[.bool vym, .slice vyo vyn vyc, .slice vyp vyk vyd]) L vyq) : Spots w (some ⟨g, 0, none⟩) L [(axq, ayq), (bxq, byq), (vxq, vyq)] := by
  intro i x y hi
  have hi2 : i < 3 := by have := (List.getElem?_eq_some_iff.1 hi).1; simpa using this
  obtain rfl | rfl | rfl : i = 0 ∨ i = 1 ∨ i = 2 := by omega
  · simp at hi; obtain ⟨rfl, rfl⟩ := hi
    exact ⟨g, 0, axm, axo, axn, axc, axp, axk, axd, aym, ayo, ayn, ayc, ayp, ayk, ayd, rfl, h.c0, h.c1, h.c2, h.c3, h.c4, h.c5, fax_0, fay_0⟩
  · simp at hi; obtain ⟨rfl, rfl⟩ := hi
    exact ⟨g, 0, bxm, bxo, bxn, bxc, bxp, bxk, bxd, bym, byo, byn, byc, byp, byk, byd, rfl, h.c6, h.c7, h.c8, h.c9, h.c10, h.c11, fbx_0, fby_0⟩
  · simp at hi; obtain ⟨rfl, rfl⟩ := hi
    exact ⟨g, 0, vxm, vxo, vxn, vxc, vxp, vxk, vxd, vym, vyo, vyn, vyc, vyp, vyk, vyd, rfl, h.c12, h.c13, h.c14, h.c15, h.c16, h.c17, fvx_0, fvy_0⟩
theorem sArea2_three {g c : Nat} {axm : Bool} {axo : Option Addr} {axn axc : Nat} {axp : Option Addr} {axk axd : Nat} {aym : Bool} {ayo : Option Addr} {ayn ayc : Nat} {ayp : Option Addr} {ayk ayd : Nat} {bxm : Bool} {bxo : Option Addr} {bxn bxc : Nat} {bxp : Option Addr} {bxk bxd : Nat} {bym : Bool} {byo : Option Addr} {byn byc : Nat} {byp : Option Addr} {byk byd : Nat} {vxm : Bool} {vxo : Option Addr} {vxn vxc : Nat} {vxp : Option Addr} {vxk vxd : Nat} {vym : Bool} {vyo : Option Addr} {vyn vyc : Nat} {vyp : Option Addr} {vyk vyd : Nat} (L : Nat) (axq ayq bxq byq vxq vyq : Rat) (w : World) (hL : L ≤ 100000) (h : Box w g [.bool axm, .slice axo axn axc, .slice axp axk axd, .bool aym, .slice ayo ayn ayc, .slice ayp ayk ayd, .bool bxm, .slice bxo bxn bxc, .slice bxp bxk bxd, .bool bym, .slice byo byn byc, .slice byp byk byd, .bool vxm, .slice vxo vxn vxc, .slice vxp vxk vxd, .bool vym, .slice vyo vyn vyc, .slice vyp vyk vyd]) (fax_0 : FQ w (.agg #[.bool axm, .slice axo axn axc, .slice axp axk axd]) L axq) (fay_0 : FQ w (.agg #[.bool aym, .slice ayo ayn ayc, .slice ayp ayk ayd]) L ayq) (fbx_0 : FQ w (.agg #[.bool bxm, .slice bxo bxn bxc, .slice bxp bxk bxd]) L bxq) (fby_0 : FQ w (.agg #[.bool bym, .slice byo byn byc, .slice byp byk byd]) L byq) (fvx_0 : FQ w (.agg #[.bool vxm, .slice vxo vxn vxc, .slice vxp vxk vxd]) L vxq) (fvy_0 : FQ w (.agg #[.bool vym, .slice vyo vyn vyc, .slice vyp vyk vyd]) L vyq) :
    Calls Try.prog 28 #[.slice (some ⟨g, 0, none⟩) 3 c] w fun e w' => AnsF w w' e (1 + 3 * (((L + L + 2) + (L + L + 2) + 2) + 2)) (areaQ [(axq, ayq), (bxq, byq), (vxq, vyq)]) :=
  sArea2_any _ 3 c _ L w rfl (by omega) hL (spots3 h fax_0 fay_0 fbx_0 fby_0 fvx_0 fvy_0)
theorem fracs3_box {w : World} {g : Nat} {am : Bool} {ao : Option Addr} {an ac : Nat} {ap : Option Addr} {ak ad : Nat} {bm : Bool} {bo : Option Addr} {bn bc : Nat} {bp : Option Addr} {bk bd : Nat} {vm : Bool} {vo : Option Addr} {vn vc : Nat} {vp : Option Addr} {vk vd : Nat} {L : Nat} {X Y Z : Int} {D E F : Nat} (h : Box w g [.bool am, .slice ao an ac, .slice ap ak ad, .bool bm, .slice bo bn bc, .slice bp bk bd, .bool vm, .slice vo vn vc, .slice vp vk vd]) (h1 : FD w (.agg #[.bool am, .slice ao an ac, .slice ap ak ad]) L X D) (h2 : FD w (.agg #[.bool bm, .slice bo bn bc, .slice bp bk bd]) L Y E) (h3 : FD w (.agg #[.bool vm, .slice vo vn vc, .slice vp vk vd]) L Z F) : Fracs w (some ⟨g, 0, none⟩) [(L, X, D), (L, Y, E), (L, Z, F)] := by
  intro i L' U G hi
  have hi2 : i < 3 := by have := (List.getElem?_eq_some_iff.1 hi).1; simpa using this
  obtain rfl | rfl | rfl : i = 0 ∨ i = 1 ∨ i = 2 := by omega
  · simp at hi; obtain ⟨rfl, rfl, rfl⟩ := hi
    exact ⟨g, 0, _, _, _, _, _, _, _, rfl, h.c0, h.c1, h.c2, h1⟩
  · simp at hi; obtain ⟨rfl, rfl, rfl⟩ := hi
    exact ⟨g, 0, _, _, _, _, _, _, _, rfl, h.c3, h.c4, h.c5, h2⟩
  · simp at hi; obtain ⟨rfl, rfl, rfl⟩ := hi
    exact ⟨g, 0, _, _, _, _, _, _, _, rfl, h.c6, h.c7, h.c8, h3⟩
theorem fSum3 {g c : Nat} {am : Bool} {ao : Option Addr} {an ac : Nat} {ap : Option Addr} {ak ad : Nat} {bm : Bool} {bo : Option Addr} {bn bc : Nat} {bp : Option Addr} {bk bd : Nat} {vm : Bool} {vo : Option Addr} {vn vc : Nat} {vp : Option Addr} {vk vd : Nat} (L : Nat) (aq bq vq : Rat) (w : World) (hL : L ≤ 1000000) (h : Box w g [.bool am, .slice ao an ac, .slice ap ak ad, .bool bm, .slice bo bn bc, .slice bp bk bd, .bool vm, .slice vo vn vc, .slice vp vk vd]) (fa_0 : FQ w (.agg #[.bool am, .slice ao an ac, .slice ap ak ad]) L aq) (fb_0 : FQ w (.agg #[.bool bm, .slice bo bn bc, .slice bp bk bd]) L bq) (fv_0 : FQ w (.agg #[.bool vm, .slice vo vn vc, .slice vp vk vd]) L vq) :
    Calls Try.prog 40 #[.slice (some ⟨g, 0, none⟩) 3 c] w fun e w' => AnsF w w' e (3 * (L + 2) + 1) (aq + bq + vq) := by
  obtain ⟨X, D, h1, rfl⟩ := fa_0
  obtain ⟨Y, E, h2, rfl⟩ := fb_0
  obtain ⟨Z, F, h3, rfl⟩ := fv_0
  refine (fSum_go _ 3 c _ w rfl (by omega) ?_ (fracs3_box h h1 h2 h3)).mono fun e w' k => k.of ?_ ?_
  · intro L' U G hm; simp at hm; omega
  · simp [fLen]; omega
  · simp [fVal, Rat.zero_add]
end Go.Proofs.Ytkcfaddilknelaa
/- The statement SpotSides, walked. -/
namespace Go.Proofs.Ytkcfaddilknelaa
open Go.RowKit Go.MagM
theorem sand_mask (x : Int) (k : Nat) (hk : k < 9223372036854775808) : ∃ y : Int, 0 ≤ y ∧ y ≤ (k : Int) ∧ bits .and .i64 x (k : Int) = y := by
  have h1 : (BitVec.ofInt 64 (k : Int)).toNat = k := by
    rw [BitVec.ofInt_natCast, BitVec.toNat_ofNat]; exact Nat.mod_eq_of_lt (by omega)
  have h2 : (BitVec.ofInt 64 x).toNat &&& k ≤ k := Nat.and_le_right
  refine ⟨(((BitVec.ofInt 64 x).toNat &&& k : Nat) : Int), by omega, by omega, ?_⟩
  show IntKind.i64.wrap ((BitVec.ofInt 64 x &&& BitVec.ofInt 64 (k : Int)).toNat : Int) = _
  rw [BitVec.toNat_and, h1, IntKind.wrap_i64]
  omega
theorem kpos (m : Int) (h : 1 ≤ m) : 0 < ((1 : Int) : Rat) / (m : Rat) := by
  have hm : (0 : Rat) < (m : Rat) := Rat.intCast_lt_intCast.2 (show (0 : Int) < m by omega)
  rw [Rat.div_def, show ((1 : Int) : Rat) = 1 from rfl, Rat.one_mul]
  exact Rat.inv_pos.2 hm
set_option maxRecDepth 100000 in
set_option maxHeartbeats 32000000 in
theorem SpotSides_w (x0 x1 y0 y1 z0 z1 a0 a1 b0 b1 v0 v1 : Int) (n m d : Int) (q : Bool) (t0 : ∀ w, Calls Try.prog 10 #[.agg #[.int .i64 x0, .int .i64 x1]] w fun e w' => e = .returned (.agg #[.int .i64 a0, .int .i64 a1]) ∧ Below w.heap.size w w') (t1 : ∀ w, Calls Try.prog 10 #[.agg #[.int .i64 y0, .int .i64 y1]] w fun e w' => e = .returned (.agg #[.int .i64 b0, .int .i64 b1]) ∧ Below w.heap.size w w') (t2 : ∀ w, Calls Try.prog 10 #[.agg #[.int .i64 z0, .int .i64 z1]] w fun e w' => e = .returned (.agg #[.int .i64 v0, .int .i64 v1]) ∧ Below w.heap.size w w') (ha0 : InP a0) (ha1 : InP a1) (hb0 : InP b0) (hb1 : InP b1) (hv0 : InP v0) (hv1 : InP v1) (hm : bits .and .i64 n 255 = (m - 1) ∧ IntKind.i64.wrap (1 + (m - 1)) = m) (hn1 : 1 ≤ m) (hn2 : m ≤ 256) (hd : (crs a0 a1 b0 b1 v0 v1).sign = d) (hq : onP v0 v1 a0 a1 b0 b1 = q) (w : World) :
    Calls Try.prog 6 #[.agg #[.int .i64 x0, .int .i64 x1, .int .i64 y0, .int .i64 y1, .int .i64 z0, .int .i64 z1], .int .i64 n] w fun e w' => e = .returned (.bool true) ∧ Below w.heap.size w w' := by
  have hB_0 := Below.refl w.heap.size w
  have T0 := Lib.hid t0; have T1 := Lib.hid t1; have T2 := Lib.hid t2; have HA0 := Lib.hid ha0; have HA1 := Lib.hid ha1; have HB0 := Lib.hid hb0; have HB1 := Lib.hid hb1; have HV0 := Lib.hid hv0; have HV1 := Lib.hid hv1; have HM := Lib.hid hm; have HD := Lib.hid hd; have HQ := Lib.hid hq; have HN1 := Lib.hid hn1; have HN2 := Lib.hid hn2
  clear t0 t1 t2 ha0 ha1 hb0 hb1 hv0 hv1 hm hd hq hn1 hn2
  obtain ⟨e1, e2⟩ := HM.out
  obtain ⟨w1, hw1, pl_0, hb1, hs1⟩ := new_box w (w.heap.size) rfl [.int .i64 x0, .int .i64 x1, .int .i64 y0, .int .i64 y1, .int .i64 z0, .int .i64 z1] 56
  have hb1' : Below w.heap.size w w1 := hb1.mono (by omega)
  clear hb1
  have hB_1 := hB_0.trans (hb1'.mono hB_0.size)
  clear hb1' hB_0
  go_enter Try.func6, Try.ntmps6
  obtain ⟨ple0, ple1, ple2, ple3, ple4, ple5, ple6, ple7, ple8, ple9, ple10, ple11⟩ := pl_0.open6
  go_wp2_with fail
  refine (sfit_any _).mono ?_
  rintro e w2 ⟨rfl, hb2⟩
  clear ple0 ple1 ple2 ple3 ple4 ple5 ple6 ple7 ple8 ple9 ple10 ple11
  have hB_2 := hB_1.trans (hb2.mono hB_1.size)
  have pl_1 := pl_0.below hb2
  clear hb2 hB_1 pl_0
  obtain ⟨ple0, ple1, ple2, ple3, ple4, ple5, ple6, ple7, ple8, ple9, ple10, ple11⟩ := pl_1.open6
  go_wp2
  clear ple0 ple1 ple2 ple3 ple4 ple5 ple6 ple7 ple8 ple9 ple10 ple11
  have hWi_0 := Below.refl w2.heap.size w2
  have hsi : w.heap.size ≤ w2.heap.size := hB_2.size
  have hlipl := pl_1.lt
  have hB_3 := hB_2.drew'
  have pl_2 := pl_1.drew
  have hWi_1 := hWi_0.drew'
  clear hB_2 pl_1 hWi_0
  obtain ⟨FFi, hFFi⟩ : ∃ F : World → Prop, ∀ w', F w' ↔ (Below w.heap.size w w' ∧ Box w' (w.heap.size) [.int .i64 x0, .int .i64 x1, .int .i64 y0, .int .i64 y1, .int .i64 z0, .int .i64 z1] ∧ Below w2.heap.size w2 w') := ⟨_, fun _ => Iff.rfl⟩
  have cFi : ∀ {w' w'' : World}, FFi w' → Below w'.heap.size w' w'' → FFi w'' := by
    intro w' w'' h hb
    obtain ⟨y0, y1, y2⟩ := (hFFi _).1 h
    exact (hFFi _).2 ⟨y0.trans (hb.mono y0.size), y1.below hb, y2.trans (hb.mono y2.size)⟩
  have mFi : ∀ {w' : World}, FFi w' → w2.heap.size ≤ w'.heap.size := by
    intro w' h
    obtain ⟨y0, y1, y2⟩ := (hFFi _).1 h
    exact y2.size
  have sFi : ∀ {w' : World}, FFi w' → (w'.cell? ⟨w.heap.size, 0, none⟩ = some (.int .i64 x0) ∧ w'.cell? ⟨w.heap.size, 1, none⟩ = some (.int .i64 x1) ∧ w'.cell? ⟨w.heap.size, 2, none⟩ = some (.int .i64 y0) ∧ w'.cell? ⟨w.heap.size, 3, none⟩ = some (.int .i64 y1) ∧ w'.cell? ⟨w.heap.size, 4, none⟩ = some (.int .i64 z0) ∧ w'.cell? ⟨w.heap.size, 5, none⟩ = some (.int .i64 z1)) := by
    intro w' h
    obtain ⟨y0, y1, y2⟩ := (hFFi _).1 h
    exact ⟨y1.c0, y1.c1, y1.c2, y1.c3, y1.c4, y1.c5⟩
  have zF : FFi w2.drew := (hFFi _).2 ⟨hB_3, pl_2, hWi_1⟩
  clear hB_3 pl_2 hWi_1
  refine wp_region_noPanic ?_
  refine wp_region_held_drew (S := fun w' => w'.cell? ⟨w.heap.size, 0, none⟩ = some (.int .i64 x0) ∧ w'.cell? ⟨w.heap.size, 1, none⟩ = some (.int .i64 x1) ∧ w'.cell? ⟨w.heap.size, 2, none⟩ = some (.int .i64 y0) ∧ w'.cell? ⟨w.heap.size, 3, none⟩ = some (.int .i64 y1) ∧ w'.cell? ⟨w.heap.size, 4, none⟩ = some (.int .i64 z0) ∧ w'.cell? ⟨w.heap.size, 5, none⟩ = some (.int .i64 z1)) (by kernel_rfl) (sFi zF) (fun hHeld => ?_)
  refine reg_take 0 ?_ ?_ ?_ (by kernel_rfl) (by kernel_rfl) (by kernel_rfl) (fun _ _ _ h => h) ?_ ?_ (by assumption) ?_
  rotate_left 2
  · simp only [List.getElem?_toArray, List.getElem?_cons_zero]; exact rfl
  · rfl
  · intro w hSw; (try dsimp only at hSw); go_simp; try with_reducible rfl
  try simp only [Act.put]
  try simp only [List.setIfInBounds_toArray, List.set_cons_zero, List.set_cons_succ]
  refine reg_take 1 ?_ ?_ ?_ (by kernel_rfl) (by kernel_rfl) (by kernel_rfl) (fun _ _ _ h => h) ?_ ?_ (by assumption) ?_
  rotate_left 2
  · simp only [List.getElem?_toArray, List.getElem?_cons_succ, List.getElem?_cons_zero]; exact rfl
  · rfl
  · intro w hSw; (try dsimp only at hSw); go_simp; try with_reducible rfl
  try simp only [Act.put]
  try simp only [List.setIfInBounds_toArray, List.set_cons_zero, List.set_cons_succ]
  refine reg_take 2 ?_ ?_ ?_ (by kernel_rfl) (by kernel_rfl) (by kernel_rfl) (fun _ _ _ h => h) ?_ ?_ (by assumption) ?_
  rotate_left 2
  · simp only [List.getElem?_toArray, List.getElem?_cons_succ, List.getElem?_cons_zero]; exact rfl
  · rfl
  · intro w hSw; (try dsimp only at hSw); go_simp; try with_reducible rfl
  try simp only [Act.put]
  try simp only [List.setIfInBounds_toArray, List.set_cons_zero, List.set_cons_succ]
  refine reg_take 3 ?_ ?_ ?_ (by kernel_rfl) (by kernel_rfl) (by kernel_rfl) (fun _ _ _ h => h) ?_ ?_ (by assumption) ?_
  rotate_left 2
  · simp only [List.getElem?_toArray, List.getElem?_cons_succ, List.getElem?_cons_zero]; exact rfl
  · rfl
  · intro w hSw; (try dsimp only at hSw); go_simp; try with_reducible rfl
  try simp only [Act.put]
  try simp only [List.setIfInBounds_toArray, List.set_cons_zero, List.set_cons_succ]
  refine reg_take 4 ?_ ?_ ?_ (by kernel_rfl) (by kernel_rfl) (by kernel_rfl) (fun _ _ _ h => h) ?_ ?_ (by assumption) ?_
  rotate_left 2
  · simp only [List.getElem?_toArray, List.getElem?_cons_succ, List.getElem?_cons_zero]; exact rfl
  · rfl
  · intro w hSw; (try dsimp only at hSw); go_simp; try with_reducible rfl
  try simp only [Act.put]
  try simp only [List.setIfInBounds_toArray, List.set_cons_zero, List.set_cons_succ]
  refine reg_take 5 ?_ ?_ ?_ (by kernel_rfl) (by kernel_rfl) (by kernel_rfl) (fun _ _ _ h => h) ?_ ?_ (by assumption) ?_
  rotate_left 2
  · simp only [List.getElem?_toArray, List.getElem?_cons_succ, List.getElem?_cons_zero]; exact rfl
  · rfl
  · intro w hSw; (try dsimp only at hSw); go_simp; try with_reducible rfl
  try simp only [Act.put]
  try simp only [List.setIfInBounds_toArray, List.set_cons_zero, List.set_cons_succ]
  refine reg_grab (fun WWi ai hWW hAA => ?_)
  rw [hWW]
  have HAi := Lib.hid hAA; clear hWW hAA hHeld
  obtain ⟨IVi, hIVi⟩ : ∃ IV : Array Bool → Act → World → Prop, ∀ l a w', IV l a w' ↔ ∃ (lb6 lb7 lb8 : Bool) (lv6 lv7 lv8 : Value) (gpa gpb gps : Nat), l = #[true, true, true, true, true, true, lb6, lb7, lb8, false, false, false] ∧ a = (((ai.put (some 5) lv6).put (some 6) lv7).put (some 7) lv8) ∧ FFi w' ∧ (lb6 = true → lv6 = .pointer (some ⟨gpa, 0, none⟩) ∧ Box w' gpa [.int .i64 0, .int .i64 0] ∧ w2.heap.size ≤ gpa) ∧ (lb7 = true → lv7 = .pointer (some ⟨gpb, 0, none⟩) ∧ Box w' gpb [.int .i64 0, .int .i64 0] ∧ w2.heap.size ≤ gpb) ∧ (lb8 = true → lv8 = .pointer (some ⟨gps, 0, none⟩) ∧ Box w' gps [.int .i64 0, .int .i64 0] ∧ w2.heap.size ≤ gps) ∧ (lb6 = true → lb7 = true → gpa ≠ gpb) ∧ (lb6 = true → lb8 = true → gpa ≠ gps) ∧ (lb7 = true → lb8 = true → gpb ≠ gps) := ⟨_, fun _ _ _ => Iff.rfl⟩
  refine wpAnyH_until IVi ?_ _ _ _ _ ((hIVi _ _ _).2 ⟨false, false, false, (ai.tmps.getD 5 undef), (ai.tmps.getD 6 undef), (ai.tmps.getD 7 undef), 0, 0, 0, rfl, (by simp only [put_same]), zF, (fun h => by cases h), (fun h => by cases h), (fun h => by cases h), (fun h => by cases h), (fun h => by cases h), (fun h => by cases h)⟩) (by kernel_rfl)
  clear zF
  intro ll aa w3 hI
  obtain ⟨lb6, lb7, lb8, lv6, lv7, lv8, gpa, gpb, gps, rfl, rfl, zF, F6, F7, F8, nq6_7, nq6_8, nq7_8⟩ := (hIVi _ _ _).1 hI
  clear hI
  by_cases hL : lb6 = true ∧ lb7 = true ∧ lb8 = true
  · left
    obtain ⟨rfl, rfl, rfl⟩ := hL
    obtain ⟨rfl, pa_0, hgpa⟩ := F6 rfl
    clear F6
    obtain ⟨rfl, pb_0, hgpb⟩ := F7 rfl
    clear F7
    obtain ⟨rfl, ps_0, hgps⟩ := F8 rfl
    clear F8
    have hnpapb := nq6_7 rfl rfl
    have hnpaps := nq6_8 rfl rfl
    have hnpbps := nq7_8 rfl rfl
    clear nq6_7 nq6_8 nq7_8
    show wpAnyH _ _ _ _ _ 3 _ _ _
    rw [HAi.out]
    try simp only [Act.put]
    try simp only [List.setIfInBounds_toArray, List.set_cons_zero, List.set_cons_succ]
    obtain ⟨hB_0, pl_0, hWi_0⟩ := (hFFi _).1 zF
    clear zF
    clear hWi_0
    obtain ⟨sf1a, sf1b, sf1c, sf1d⟩ := pa_0.open2
    obtain ⟨sg1a, sg1b⟩ := Box.put2 pa_0 (.int .i64 x0)
    refine reg_call 9 ?_ (by kernel_rfl) ?_ (fun K hK => ?_)
    rotate_left 1
    · simp only [List.getElem?_toArray, List.getElem?_cons_succ, List.getElem?_cons_zero]; exact rfl
    go_simp
    have hB_1 := below_setAll hB_0 (g := gpa) (by omega) [.int .i64 x0, .int .i64 x1]
    have pl_1 := pl_0.farAll (g' := gpa) (by omega) [.int .i64 x0, .int .i64 x1]
    have pb_1 := pb_0.farAll (g' := gpa) (by omega) [.int .i64 x0, .int .i64 x1]
    have ps_1 := ps_0.farAll (g' := gpa) (by omega) [.int .i64 x0, .int .i64 x1]
    have pa_1 := pa_0.setAll [.int .i64 x0, .int .i64 x1] rfl
    simp only [setAll, Nat.zero_add] at hB_1 pl_1 pa_1 pb_1 ps_1
    clear sf1a sf1b sf1c sf1d sg1a sg1b
    clear hB_0 pl_0 pb_0 ps_0 pa_0
    refine hK.out _ _ ⟨pl_1.c0, pl_1.c1, pl_1.c2, pl_1.c3, pl_1.c4, pl_1.c5⟩ (fun hHeld => ?_)
    clear hK K
    try simp only [Act.put]
    try simp only [List.setIfInBounds_toArray, List.set_cons_zero, List.set_cons_succ]
    generalize (World.setCell (World.setCell w3 ⟨gpa, 0, none⟩ (.int .i64 x0)) ⟨gpa, 1, none⟩ (.int .i64 x1)) = w4 at *
    obtain ⟨sf2a, sf2b, sf2c, sf2d⟩ := pb_1.open2
    obtain ⟨sg2a, sg2b⟩ := Box.put2 pb_1 (.int .i64 y0)
    refine reg_call 10 ?_ (by kernel_rfl) ?_ (fun K hK => ?_)
    rotate_left 1
    · simp only [List.getElem?_toArray, List.getElem?_cons_succ, List.getElem?_cons_zero]; exact rfl
    go_simp
    have hB_2 := below_setAll hB_1 (g := gpb) (by omega) [.int .i64 y0, .int .i64 y1]
    have pl_2 := pl_1.farAll (g' := gpb) (by omega) [.int .i64 y0, .int .i64 y1]
    have pa_2 := pa_1.farAll (g' := gpb) (by omega) [.int .i64 y0, .int .i64 y1]
    have ps_2 := ps_1.farAll (g' := gpb) (by omega) [.int .i64 y0, .int .i64 y1]
    have pb_2 := pb_1.setAll [.int .i64 y0, .int .i64 y1] rfl
    simp only [setAll, Nat.zero_add] at hB_2 pl_2 pa_2 pb_2 ps_2
    clear sf2a sf2b sf2c sf2d sg2a sg2b
    clear hB_1 pl_1 pa_1 ps_1 pb_1
    refine hK.out _ _ ⟨pl_2.c0, pl_2.c1, pl_2.c2, pl_2.c3, pl_2.c4, pl_2.c5⟩ (fun hHeld => ?_)
    clear hK K
    try simp only [Act.put]
    try simp only [List.setIfInBounds_toArray, List.set_cons_zero, List.set_cons_succ]
    generalize (World.setCell (World.setCell w4 ⟨gpb, 0, none⟩ (.int .i64 y0)) ⟨gpb, 1, none⟩ (.int .i64 y1)) = w5 at *
    obtain ⟨sf3a, sf3b, sf3c, sf3d⟩ := ps_2.open2
    obtain ⟨sg3a, sg3b⟩ := Box.put2 ps_2 (.int .i64 z0)
    refine reg_call 11 ?_ (by kernel_rfl) ?_ (fun K hK => ?_)
    rotate_left 1
    · simp only [List.getElem?_toArray, List.getElem?_cons_succ, List.getElem?_cons_zero]; exact rfl
    go_simp
    have hB_3 := below_setAll hB_2 (g := gps) (by omega) [.int .i64 z0, .int .i64 z1]
    have pl_3 := pl_2.farAll (g' := gps) (by omega) [.int .i64 z0, .int .i64 z1]
    have pa_3 := pa_2.farAll (g' := gps) (by omega) [.int .i64 z0, .int .i64 z1]
    have pb_3 := pb_2.farAll (g' := gps) (by omega) [.int .i64 z0, .int .i64 z1]
    have ps_3 := ps_2.setAll [.int .i64 z0, .int .i64 z1] rfl
    simp only [setAll, Nat.zero_add] at hB_3 pl_3 pa_3 pb_3 ps_3
    clear sf3a sf3b sf3c sf3d sg3a sg3b
    clear hB_2 pl_2 pa_2 pb_2 ps_2
    refine hK.out _ _ ⟨pl_3.c0, pl_3.c1, pl_3.c2, pl_3.c3, pl_3.c4, pl_3.c5⟩ (fun hHeld => ?_)
    clear hK K
    try simp only [Act.put]
    try simp only [List.setIfInBounds_toArray, List.set_cons_zero, List.set_cons_succ]
    generalize (World.setCell (World.setCell w5 ⟨gps, 0, none⟩ (.int .i64 z0)) ⟨gps, 1, none⟩ (.int .i64 z1)) = w6 at *
    refine wpAnyH_done (by kernel_rfl) ?_ _
    refine NoPanic.normal ?_
    clear pl_3
    go_wp2_with fail
    refine (nOf_any 1 (by omega) (by omega) _).mono ?_
    rintro e w7 ⟨m1, o1, n1, c1, rfl, f1_0, hb7⟩
    have hB_4 := hB_3.trans (hb7.mono hB_3.size)
    have pa_4 := pa_3.below hb7
    have pb_4 := pb_3.below hb7
    have ps_4 := ps_3.below hb7
    clear hb7 hB_3 pa_3 pb_3 ps_3
    go_wp2_with fail
    refine (nOf_any m (by have := HN1.out; omega) (by have := HN2.out; omega) _).mono ?_
    rintro e w8 ⟨m2, o2, n2, c2, rfl, f2_0, hb8⟩
    have hB_5 := hB_4.trans (hb8.mono hB_4.size)
    have pa_5 := pa_4.below hb8
    have pb_5 := pb_4.below hb8
    have ps_5 := ps_4.below hb8
    have f1_1 := f1_0.below hb8
    clear hb8 hB_4 pa_4 pb_4 ps_4 f1_0
    go_wp2_with fail
    refine (fMake_some _ _ 1 1 _ _ _ (by omega) (by omega) f1_1.num f2_0.num (by have := HN1.out; omega)).mono ?_
    rintro e w9 ⟨m3, o3, n3, c3, p3, k3, d3, rfl, f3_0, hb9⟩
    have hB_6 := hB_5.trans (hb9.mono hB_5.size)
    have pa_6 := pa_5.below hb9
    have pb_6 := pb_5.below hb9
    have ps_6 := ps_5.below hb9
    have f1_2 := f1_1.below hb9
    have f2_1 := f2_0.below hb9
    clear hb9 hB_5 pa_5 pb_5 ps_5 f1_1 f2_0
    clear f1_2 f2_1
    have hl1pa := pa_6.lt
    have hl1pb := pb_6.lt
    have hl1ps := ps_6.lt
    have hl1B := hB_6.size
    obtain ⟨w10, hw10, pk_0, hb10, hs10⟩ := new_box w9 (w9.heap.size) rfl [.bool m3, .slice o3 n3 c3, .slice p3 k3 d3] 31
    have hb10' : Below w9.heap.size w9 w10 := hb10.mono (by omega)
    clear hb10
    have hB_7 := hB_6.trans (hb10'.mono hB_6.size)
    have pa_7 := pa_6.below hb10'
    have pb_7 := pb_6.below hb10'
    have ps_7 := ps_6.below hb10'
    have f3_1 := f3_0.below hb10'
    clear hb10' hB_6 pa_6 pb_6 ps_6 f3_0
    go_wp2
    try rw [hw10]
    have hWj_0 := Below.refl w10.heap.size w10
    have hsj : w.heap.size ≤ w10.heap.size := hB_7.size
    have hljpa := pa_7.lt
    have hljpb := pb_7.lt
    have hljps := ps_7.lt
    have hljpk := pk_0.lt
    have hB_8 := hB_7.drew'
    have pa_8 := pa_7.drew
    have pb_8 := pb_7.drew
    have ps_8 := ps_7.drew
    have f3_2 := f3_1.drew
    have pk_1 := pk_0.drew
    have hWj_1 := hWj_0.drew'
    clear hB_7 pa_7 pb_7 ps_7 f3_1 pk_0 hWj_0
    obtain ⟨FFj, hFFj⟩ : ∃ F : World → Prop, ∀ w', F w' ↔ (Below w.heap.size w w' ∧ Box w' (gpa) [.int .i64 x0, .int .i64 x1] ∧ Box w' (gpb) [.int .i64 y0, .int .i64 y1] ∧ Box w' (gps) [.int .i64 z0, .int .i64 z1] ∧ RF w' (.agg #[.bool m3, .slice o3 n3 c3, .slice p3 k3 d3]) (max 1 1) (((1 : Int) : Rat) / (m : Rat)) ∧ Box w' (w9.heap.size) [.bool m3, .slice o3 n3 c3, .slice p3 k3 d3] ∧ Below w10.heap.size w10 w') := ⟨_, fun _ => Iff.rfl⟩
    have cFj : ∀ {w' w'' : World}, FFj w' → Below w'.heap.size w' w'' → FFj w'' := by
      intro w' w'' h hb
      obtain ⟨y0, y1, y2, y3, y4, y5, y6⟩ := (hFFj _).1 h
      exact (hFFj _).2 ⟨y0.trans (hb.mono y0.size), y1.below hb, y2.below hb, y3.below hb, y4.below hb, y5.below hb, y6.trans (hb.mono y6.size)⟩
    have mFj : ∀ {w' : World}, FFj w' → w10.heap.size ≤ w'.heap.size := by
      intro w' h
      obtain ⟨y0, y1, y2, y3, y4, y5, y6⟩ := (hFFj _).1 h
      exact y6.size
    have sFj : ∀ {w' : World}, FFj w' → (w'.cell? ⟨gpa, 0, none⟩ = some (.int .i64 x0) ∧ w'.cell? ⟨gpa, 1, none⟩ = some (.int .i64 x1) ∧ w'.cell? ⟨gpb, 0, none⟩ = some (.int .i64 y0) ∧ w'.cell? ⟨gpb, 1, none⟩ = some (.int .i64 y1) ∧ w'.cell? ⟨gps, 0, none⟩ = some (.int .i64 z0) ∧ w'.cell? ⟨gps, 1, none⟩ = some (.int .i64 z1)) := by
      intro w' h
      obtain ⟨y0, y1, y2, y3, y4, y5, y6⟩ := (hFFj _).1 h
      exact ⟨y1.c0, y1.c1, y2.c0, y2.c1, y3.c0, y3.c1⟩
    have zF : FFj w10.drew := (hFFj _).2 ⟨hB_8, pa_8, pb_8, ps_8, f3_2, pk_1, hWj_1⟩
    clear hB_8 pa_8 pb_8 ps_8 f3_2 pk_1 hWj_1
    refine wp_region_noPanic ?_
    refine wp_region_held_drew (S := fun w' => w'.cell? ⟨gpa, 0, none⟩ = some (.int .i64 x0) ∧ w'.cell? ⟨gpa, 1, none⟩ = some (.int .i64 x1) ∧ w'.cell? ⟨gpb, 0, none⟩ = some (.int .i64 y0) ∧ w'.cell? ⟨gpb, 1, none⟩ = some (.int .i64 y1) ∧ w'.cell? ⟨gps, 0, none⟩ = some (.int .i64 z0) ∧ w'.cell? ⟨gps, 1, none⟩ = some (.int .i64 z1)) (by kernel_rfl) (sFj zF) (fun hHeld => ?_)
    refine reg_take 0 ?_ ?_ ?_ (by kernel_rfl) (by kernel_rfl) (by kernel_rfl) (fun _ _ _ h => h) ?_ ?_ (by assumption) ?_
    rotate_left 2
    · simp only [List.getElem?_toArray, List.getElem?_cons_zero]; exact rfl
    · rfl
    · intro w hSw; (try dsimp only at hSw); go_simp; try with_reducible rfl
    try simp only [Act.put]
    try simp only [List.setIfInBounds_toArray, List.set_cons_zero, List.set_cons_succ]
    refine reg_take 2 ?_ ?_ ?_ (by kernel_rfl) (by kernel_rfl) (by kernel_rfl) (fun _ _ _ h => h) ?_ ?_ (by assumption) ?_
    rotate_left 2
    · simp only [List.getElem?_toArray, List.getElem?_cons_succ, List.getElem?_cons_zero]; exact rfl
    · rfl
    · intro w hSw; (try dsimp only at hSw); go_simp; try with_reducible rfl
    try simp only [Act.put]
    try simp only [List.setIfInBounds_toArray, List.set_cons_zero, List.set_cons_succ]
    refine reg_take 4 ?_ ?_ ?_ (by kernel_rfl) (by kernel_rfl) (by kernel_rfl) (fun _ _ _ h => h) ?_ ?_ (by assumption) ?_
    rotate_left 2
    · simp only [List.getElem?_toArray, List.getElem?_cons_succ, List.getElem?_cons_zero]; exact rfl
    · rfl
    · intro w hSw; (try dsimp only at hSw); go_simp; try with_reducible rfl
    try simp only [Act.put]
    try simp only [List.setIfInBounds_toArray, List.set_cons_zero, List.set_cons_succ]
    refine reg_grab (fun WWj aj hWW hAA => ?_)
    rw [hWW]
    have HAj := Lib.hid hAA; clear hWW hAA hHeld
    obtain ⟨IVj, hIVj⟩ : ∃ IV : Array Bool → Act → World → Prop, ∀ l a w', IV l a w' ↔ ∃ (lb1 lb3 lb5 lb6 lb7 lb8 : Bool) (lv1 lv3 lv5 lv6 lv7 lv8 : Value) (gqa gqb gqv : Nat), l = #[true, lb1, true, lb3, true, lb5, lb6, lb7, lb8, false, false, false] ∧ a = ((((((aj.put (some 33) lv1).put (some 35) lv3).put (some 37) lv5).put (some 11) lv6).put (some 12) lv7).put (some 13) lv8) ∧ FFj w' ∧ (lb1 = true → lv1 = .agg #[.int .i64 a0, .int .i64 a1]) ∧ (lb3 = true → lv3 = .agg #[.int .i64 b0, .int .i64 b1]) ∧ (lb5 = true → lv5 = .agg #[.int .i64 v0, .int .i64 v1]) ∧ (lb6 = true → lv6 = .pointer (some ⟨gqa, 0, none⟩) ∧ Box w' gqa [.int .i64 0, .int .i64 0] ∧ w10.heap.size ≤ gqa) ∧ (lb7 = true → lv7 = .pointer (some ⟨gqb, 0, none⟩) ∧ Box w' gqb [.int .i64 0, .int .i64 0] ∧ w10.heap.size ≤ gqb) ∧ (lb8 = true → lv8 = .pointer (some ⟨gqv, 0, none⟩) ∧ Box w' gqv [.int .i64 0, .int .i64 0] ∧ w10.heap.size ≤ gqv) ∧ (lb3 = true → lb1 = true) ∧ (lb5 = true → lb3 = true) ∧ (lb6 = true → lb7 = true → gqa ≠ gqb) ∧ (lb6 = true → lb8 = true → gqa ≠ gqv) ∧ (lb7 = true → lb8 = true → gqb ≠ gqv) := ⟨_, fun _ _ _ => Iff.rfl⟩
    refine wpAnyH_until IVj ?_ _ _ _ _ ((hIVj _ _ _).2 ⟨false, false, false, false, false, false, (aj.tmps.getD 33 undef), (aj.tmps.getD 35 undef), (aj.tmps.getD 37 undef), (aj.tmps.getD 11 undef), (aj.tmps.getD 12 undef), (aj.tmps.getD 13 undef), 0, 0, 0, rfl, (by simp only [put_same]), zF, (fun h => by cases h), (fun h => by cases h), (fun h => by cases h), (fun h => by cases h), (fun h => by cases h), (fun h => by cases h), (fun h => by cases h), (fun h => by cases h), (fun h => by cases h), (fun h => by cases h), (fun h => by cases h)⟩) (by kernel_rfl)
    clear zF
    intro ll aa w11 hI
    obtain ⟨lb1, lb3, lb5, lb6, lb7, lb8, lv1, lv3, lv5, lv6, lv7, lv8, gqa, gqb, gqv, rfl, rfl, zF, F1, F3, F5, F6, F7, F8, dp3_1, dp5_3, nq6_7, nq6_8, nq7_8⟩ := (hIVj _ _ _).1 hI
    clear hI
    by_cases hL : lb1 = true ∧ lb3 = true ∧ lb5 = true ∧ lb6 = true ∧ lb7 = true ∧ lb8 = true
    · left
      obtain ⟨rfl, rfl, rfl, rfl, rfl, rfl⟩ := hL
      obtain rfl := F1 rfl
      clear F1
      obtain rfl := F3 rfl
      clear F3
      obtain rfl := F5 rfl
      clear F5
      obtain ⟨rfl, qa_0, hgqa⟩ := F6 rfl
      clear F6
      obtain ⟨rfl, qb_0, hgqb⟩ := F7 rfl
      clear F7
      obtain ⟨rfl, qv_0, hgqv⟩ := F8 rfl
      clear F8
      have hnqaqb := nq6_7 rfl rfl
      have hnqaqv := nq6_8 rfl rfl
      have hnqbqv := nq7_8 rfl rfl
      clear dp3_1 dp5_3 nq6_7 nq6_8 nq7_8
      show wpAnyH _ _ _ _ _ 3 _ _ _
      rw [HAj.out]
      try simp only [Act.put]
      try simp only [List.setIfInBounds_toArray, List.set_cons_zero, List.set_cons_succ]
      obtain ⟨hB_0, pa_0, pb_0, ps_0, f3_0, pk_0, hWj_0⟩ := (hFFj _).1 zF
      clear zF
      clear hWj_0
      obtain ⟨sf4a, sf4b, sf4c, sf4d⟩ := qa_0.open2
      obtain ⟨sg4a, sg4b⟩ := Box.put2 qa_0 (.int .i64 a0)
      refine reg_call 9 ?_ (by kernel_rfl) ?_ (fun K hK => ?_)
      rotate_left 1
      · simp only [List.getElem?_toArray, List.getElem?_cons_succ, List.getElem?_cons_zero]; exact rfl
      go_simp
      have hB_1 := below_setAll hB_0 (g := gqa) (by omega) [.int .i64 a0, .int .i64 a1]
      have pa_1 := pa_0.farAll (g' := gqa) (by omega) [.int .i64 a0, .int .i64 a1]
      have pb_1 := pb_0.farAll (g' := gqa) (by omega) [.int .i64 a0, .int .i64 a1]
      have ps_1 := ps_0.farAll (g' := gqa) (by omega) [.int .i64 a0, .int .i64 a1]
      have f3_1 := f3_0.setAll qa_0 (noWordI2 _ _) [.int .i64 a0, .int .i64 a1] rfl
      have pk_1 := pk_0.farAll (g' := gqa) (by omega) [.int .i64 a0, .int .i64 a1]
      have qb_1 := qb_0.farAll (g' := gqa) (by omega) [.int .i64 a0, .int .i64 a1]
      have qv_1 := qv_0.farAll (g' := gqa) (by omega) [.int .i64 a0, .int .i64 a1]
      have qa_1 := qa_0.setAll [.int .i64 a0, .int .i64 a1] rfl
      simp only [setAll, Nat.zero_add] at hB_1 pa_1 pb_1 ps_1 f3_1 pk_1 qa_1 qb_1 qv_1
      clear sf4a sf4b sf4c sf4d sg4a sg4b
      clear hB_0 pa_0 pb_0 ps_0 f3_0 pk_0 qb_0 qv_0 qa_0
      refine hK.out _ _ ⟨pa_1.c0, pa_1.c1, pb_1.c0, pb_1.c1, ps_1.c0, ps_1.c1⟩ (fun hHeld => ?_)
      clear hK K
      try simp only [Act.put]
      try simp only [List.setIfInBounds_toArray, List.set_cons_zero, List.set_cons_succ]
      generalize (World.setCell (World.setCell w11 ⟨gqa, 0, none⟩ (.int .i64 a0)) ⟨gqa, 1, none⟩ (.int .i64 a1)) = w12 at *
      obtain ⟨sf5a, sf5b, sf5c, sf5d⟩ := qb_1.open2
      obtain ⟨sg5a, sg5b⟩ := Box.put2 qb_1 (.int .i64 b0)
      refine reg_call 10 ?_ (by kernel_rfl) ?_ (fun K hK => ?_)
      rotate_left 1
      · simp only [List.getElem?_toArray, List.getElem?_cons_succ, List.getElem?_cons_zero]; exact rfl
      go_simp
      have hB_2 := below_setAll hB_1 (g := gqb) (by omega) [.int .i64 b0, .int .i64 b1]
      have pa_2 := pa_1.farAll (g' := gqb) (by omega) [.int .i64 b0, .int .i64 b1]
      have pb_2 := pb_1.farAll (g' := gqb) (by omega) [.int .i64 b0, .int .i64 b1]
      have ps_2 := ps_1.farAll (g' := gqb) (by omega) [.int .i64 b0, .int .i64 b1]
      have f3_2 := f3_1.setAll qb_1 (noWordI2 _ _) [.int .i64 b0, .int .i64 b1] rfl
      have pk_2 := pk_1.farAll (g' := gqb) (by omega) [.int .i64 b0, .int .i64 b1]
      have qa_2 := qa_1.farAll (g' := gqb) (by omega) [.int .i64 b0, .int .i64 b1]
      have qv_2 := qv_1.farAll (g' := gqb) (by omega) [.int .i64 b0, .int .i64 b1]
      have qb_2 := qb_1.setAll [.int .i64 b0, .int .i64 b1] rfl
      simp only [setAll, Nat.zero_add] at hB_2 pa_2 pb_2 ps_2 f3_2 pk_2 qa_2 qb_2 qv_2
      clear sf5a sf5b sf5c sf5d sg5a sg5b
      clear hB_1 pa_1 pb_1 ps_1 f3_1 pk_1 qa_1 qv_1 qb_1
      refine hK.out _ _ ⟨pa_2.c0, pa_2.c1, pb_2.c0, pb_2.c1, ps_2.c0, ps_2.c1⟩ (fun hHeld => ?_)
      clear hK K
      try simp only [Act.put]
      try simp only [List.setIfInBounds_toArray, List.set_cons_zero, List.set_cons_succ]
      generalize (World.setCell (World.setCell w12 ⟨gqb, 0, none⟩ (.int .i64 b0)) ⟨gqb, 1, none⟩ (.int .i64 b1)) = w13 at *
      obtain ⟨sf6a, sf6b, sf6c, sf6d⟩ := qv_2.open2
      obtain ⟨sg6a, sg6b⟩ := Box.put2 qv_2 (.int .i64 v0)
      refine reg_call 11 ?_ (by kernel_rfl) ?_ (fun K hK => ?_)
      rotate_left 1
      · simp only [List.getElem?_toArray, List.getElem?_cons_succ, List.getElem?_cons_zero]; exact rfl
      go_simp
      have hB_3 := below_setAll hB_2 (g := gqv) (by omega) [.int .i64 v0, .int .i64 v1]
      have pa_3 := pa_2.farAll (g' := gqv) (by omega) [.int .i64 v0, .int .i64 v1]
      have pb_3 := pb_2.farAll (g' := gqv) (by omega) [.int .i64 v0, .int .i64 v1]
      have ps_3 := ps_2.farAll (g' := gqv) (by omega) [.int .i64 v0, .int .i64 v1]
      have f3_3 := f3_2.setAll qv_2 (noWordI2 _ _) [.int .i64 v0, .int .i64 v1] rfl
      have pk_3 := pk_2.farAll (g' := gqv) (by omega) [.int .i64 v0, .int .i64 v1]
      have qa_3 := qa_2.farAll (g' := gqv) (by omega) [.int .i64 v0, .int .i64 v1]
      have qb_3 := qb_2.farAll (g' := gqv) (by omega) [.int .i64 v0, .int .i64 v1]
      have qv_3 := qv_2.setAll [.int .i64 v0, .int .i64 v1] rfl
      simp only [setAll, Nat.zero_add] at hB_3 pa_3 pb_3 ps_3 f3_3 pk_3 qa_3 qb_3 qv_3
      clear sf6a sf6b sf6c sf6d sg6a sg6b
      clear hB_2 pa_2 pb_2 ps_2 f3_2 pk_2 qa_2 qb_2 qv_2
      refine hK.out _ _ ⟨pa_3.c0, pa_3.c1, pb_3.c0, pb_3.c1, ps_3.c0, ps_3.c1⟩ (fun hHeld => ?_)
      clear hK K
      try simp only [Act.put]
      try simp only [List.setIfInBounds_toArray, List.set_cons_zero, List.set_cons_succ]
      generalize (World.setCell (World.setCell w13 ⟨gqv, 0, none⟩ (.int .i64 v0)) ⟨gqv, 1, none⟩ (.int .i64 v1)) = w14 at *
      refine wpAnyH_done (by kernel_rfl) ?_ _
      refine NoPanic.normal ?_
      go_wp2
      have KPOS := Lib.hid (kpos m HN1.out)
      have hB_4 := hB_3.drew'
      have pa_4 := pa_3.drew
      have pb_4 := pb_3.drew
      have ps_4 := ps_3.drew
      have f3_4 := f3_3.drew
      have pk_4 := pk_3.drew
      have qa_4 := qa_3.drew
      have qb_4 := qb_3.drew
      have qv_4 := qv_3.drew
      clear hB_3 pa_3 pb_3 ps_3 f3_3 pk_3 qa_3 qb_3 qv_3
      go_region_held3 (fun w' => w'.cell? ⟨gpa, 0, none⟩ = some (.int .i64 x0) ∧ w'.cell? ⟨gpa, 1, none⟩ = some (.int .i64 x1) ∧ w'.cell? ⟨gpb, 0, none⟩ = some (.int .i64 y0) ∧ w'.cell? ⟨gpb, 1, none⟩ = some (.int .i64 y1) ∧ w'.cell? ⟨gps, 0, none⟩ = some (.int .i64 z0) ∧ w'.cell? ⟨gps, 1, none⟩ = some (.int .i64 z1) ∧ w'.cell? ⟨w9.heap.size, 0, none⟩ = some (.bool m3) ∧ w'.cell? ⟨w9.heap.size, 1, none⟩ = some (.slice o3 n3 c3) ∧ w'.cell? ⟨w9.heap.size, 2, none⟩ = some (.slice p3 k3 d3) ∧ w'.cell? ⟨gqa, 0, none⟩ = some (.int .i64 a0) ∧ w'.cell? ⟨gqa, 1, none⟩ = some (.int .i64 a1) ∧ w'.cell? ⟨gqb, 0, none⟩ = some (.int .i64 b0) ∧ w'.cell? ⟨gqb, 1, none⟩ = some (.int .i64 b1) ∧ w'.cell? ⟨gqv, 0, none⟩ = some (.int .i64 v0) ∧ w'.cell? ⟨gqv, 1, none⟩ = some (.int .i64 v1))
        (first | with_reducible exact ⟨pa_4.c0, pa_4.c1, pb_4.c0, pb_4.c1, ps_4.c0, ps_4.c1, pk_4.c0, pk_4.c1, pk_4.c2, qa_4.c0, qa_4.c1, qb_4.c0, qb_4.c1, qv_4.c0, qv_4.c1⟩ | with_reducible exact ⟨pa_5.c0, pa_5.c1, pb_5.c0, pb_5.c1, ps_5.c0, ps_5.c1, pk_5.c0, pk_5.c1, pk_5.c2, qa_5.c0, qa_5.c1, qb_5.c0, qb_5.c1, qv_5.c0, qv_5.c1⟩ | with_reducible exact ⟨pa_6.c0, pa_6.c1, pb_6.c0, pb_6.c1, ps_6.c0, ps_6.c1, pk_6.c0, pk_6.c1, pk_6.c2, qa_6.c0, qa_6.c1, qb_6.c0, qb_6.c1, qv_6.c0, qv_6.c1⟩ | with_reducible exact ⟨pa_7.c0, pa_7.c1, pb_7.c0, pb_7.c1, ps_7.c0, ps_7.c1, pk_7.c0, pk_7.c1, pk_7.c2, qa_7.c0, qa_7.c1, qb_7.c0, qb_7.c1, qv_7.c0, qv_7.c1⟩ | with_reducible exact ⟨pa_8.c0, pa_8.c1, pb_8.c0, pb_8.c1, ps_8.c0, ps_8.c1, pk_8.c0, pk_8.c1, pk_8.c2, qa_8.c0, qa_8.c1, qb_8.c0, qb_8.c1, qv_8.c0, qv_8.c1⟩ | with_reducible exact ⟨pa_9.c0, pa_9.c1, pb_9.c0, pb_9.c1, ps_9.c0, ps_9.c1, pk_9.c0, pk_9.c1, pk_9.c2, qa_9.c0, qa_9.c1, qb_9.c0, qb_9.c1, qv_9.c0, qv_9.c1⟩ | with_reducible exact ⟨pa_10.c0, pa_10.c1, pb_10.c0, pb_10.c1, ps_10.c0, ps_10.c1, pk_10.c0, pk_10.c1, pk_10.c2, qa_10.c0, qa_10.c1, qb_10.c0, qb_10.c1, qv_10.c0, qv_10.c1⟩ | with_reducible exact ⟨pa_11.c0, pa_11.c1, pb_11.c0, pb_11.c1, ps_11.c0, ps_11.c1, pk_11.c0, pk_11.c1, pk_11.c2, qa_11.c0, qa_11.c1, qb_11.c0, qb_11.c1, qv_11.c0, qv_11.c1⟩ | with_reducible exact ⟨pa_12.c0, pa_12.c1, pb_12.c0, pb_12.c1, ps_12.c0, ps_12.c1, pk_12.c0, pk_12.c1, pk_12.c2, qa_12.c0, qa_12.c1, qb_12.c0, qb_12.c1, qv_12.c0, qv_12.c1⟩ | with_reducible exact ⟨pa_13.c0, pa_13.c1, pb_13.c0, pb_13.c1, ps_13.c0, ps_13.c1, pk_13.c0, pk_13.c1, pk_13.c2, qa_13.c0, qa_13.c1, qb_13.c0, qb_13.c1, qv_13.c0, qv_13.c1⟩ | with_reducible exact ⟨pa_14.c0, pa_14.c1, pb_14.c0, pb_14.c1, ps_14.c0, ps_14.c1, pk_14.c0, pk_14.c1, pk_14.c2, qa_14.c0, qa_14.c1, qb_14.c0, qb_14.c1, qv_14.c0, qv_14.c1⟩ | fail)
        (first
          | (go_at_call 32; (with_reducible refine (sx_any x0 x1 a0 a1 (max 1 1) _ T0.out HA0.out HA1.out _ (by omega) pk_4 f3_4.q).mono ?_); rintro e w15 ⟨m4x, o4x, n4x, c4x, p4x, k4x, d4x, m4y, o4y, n4y, c4y, p4y, k4y, d4y, rfl, f4x_0, f4y_0, hb15⟩; have hB_5 := hB_4.trans (hb15.mono hB_4.size); have pa_5 := pa_4.below hb15; have pb_5 := pb_4.below hb15; have ps_5 := ps_4.below hb15; have f3_5 := f3_4.below hb15; have pk_5 := pk_4.below hb15; have qa_5 := qa_4.below hb15; have qb_5 := qb_4.below hb15; have qv_5 := qv_4.below hb15; clear hb15 hB_4 pa_4 pb_4 ps_4 f3_4 pk_4 qa_4 qb_4 qv_4)
          | (go_at_call 32; (with_reducible refine (sx_any y0 y1 b0 b1 (max 1 1) _ T1.out HB0.out HB1.out _ (by omega) pk_5 f3_5.q).mono ?_); rintro e w16 ⟨m5x, o5x, n5x, c5x, p5x, k5x, d5x, m5y, o5y, n5y, c5y, p5y, k5y, d5y, rfl, f5x_0, f5y_0, hb16⟩; have hB_6 := hB_5.trans (hb16.mono hB_5.size); have pa_6 := pa_5.below hb16; have pb_6 := pb_5.below hb16; have ps_6 := ps_5.below hb16; have f3_6 := f3_5.below hb16; have pk_6 := pk_5.below hb16; have qa_6 := qa_5.below hb16; have qb_6 := qb_5.below hb16; have qv_6 := qv_5.below hb16; have f4x_1 := f4x_0.below hb16; have f4y_1 := f4y_0.below hb16; clear hb16 hB_5 pa_5 pb_5 ps_5 f3_5 pk_5 qa_5 qb_5 qv_5 f4x_0 f4y_0)
          | (go_at_call 32; (with_reducible refine (sx_any z0 z1 v0 v1 (max 1 1) _ T2.out HV0.out HV1.out _ (by omega) pk_6 f3_6.q).mono ?_); rintro e w17 ⟨m6x, o6x, n6x, c6x, p6x, k6x, d6x, m6y, o6y, n6y, c6y, p6y, k6y, d6y, rfl, f6x_0, f6y_0, hb17⟩; have hB_7 := hB_6.trans (hb17.mono hB_6.size); have pa_7 := pa_6.below hb17; have pb_7 := pb_6.below hb17; have ps_7 := ps_6.below hb17; have f3_7 := f3_6.below hb17; have pk_7 := pk_6.below hb17; have qa_7 := qa_6.below hb17; have qb_7 := qb_6.below hb17; have qv_7 := qv_6.below hb17; have f4x_2 := f4x_1.below hb17; have f4y_2 := f4y_1.below hb17; have f5x_1 := f5x_0.below hb17; have f5y_1 := f5y_0.below hb17; clear hb17 hB_6 pa_6 pb_6 ps_6 f3_6 pk_6 qa_6 qb_6 qv_6 f4x_1 f4y_1 f5x_0 f5y_0)
          | (go_at_call 22; (with_reducible refine (sSide_any (max 1 1 + 1 + 2) _ _ (max 1 1 + 1 + 2) _ _ (max 1 1 + 1 + 2) _ _ d _ (by omega) (by omega) (by omega) f4x_2.q f4y_2.q f5x_1.q f5y_1.q f6x_0.q f6y_0.q ((side_times (KPOS.out) _ _ _ _ _ _).trans HD.out)).mono ?_); rintro e w18 ⟨rfl, hb18⟩; have hB_8 := hB_7.trans (hb18.mono hB_7.size); have pa_8 := pa_7.below hb18; have pb_8 := pb_7.below hb18; have ps_8 := ps_7.below hb18; have f3_8 := f3_7.below hb18; have pk_8 := pk_7.below hb18; have qa_8 := qa_7.below hb18; have qb_8 := qb_7.below hb18; have qv_8 := qv_7.below hb18; have f4x_3 := f4x_2.below hb18; have f4y_3 := f4y_2.below hb18; have f5x_2 := f5x_1.below hb18; have f5y_2 := f5y_1.below hb18; have f6x_1 := f6x_0.below hb18; have f6y_1 := f6y_0.below hb18; clear hb18 hB_7 pa_7 pb_7 ps_7 f3_7 pk_7 qa_7 qb_7 qv_7 f4x_2 f4y_2 f5x_1 f5y_1 f6x_0 f6y_0)
          | (go_at_call 12; (with_reducible refine (Orient_is a0 a1 b0 b1 v0 v1 HA0.out HA1.out HB0.out HB1.out HV0.out HV1.out HD.out _).mono ?_); rintro e w19 ⟨rfl, hb19⟩; have hB_9 := hB_8.trans (hb19.mono hB_8.size); have pa_9 := pa_8.below hb19; have pb_9 := pb_8.below hb19; have ps_9 := ps_8.below hb19; have f3_9 := f3_8.below hb19; have pk_9 := pk_8.below hb19; have qa_9 := qa_8.below hb19; have qb_9 := qb_8.below hb19; have qv_9 := qv_8.below hb19; have f4x_4 := f4x_3.below hb19; have f4y_4 := f4y_3.below hb19; have f5x_3 := f5x_2.below hb19; have f5y_3 := f5y_2.below hb19; have f6x_2 := f6x_1.below hb19; have f6y_2 := f6y_1.below hb19; clear hb19 hB_8 pa_8 pb_8 ps_8 f3_8 pk_8 qa_8 qb_8 qv_8 f4x_3 f4y_3 f5x_2 f5y_2 f6x_1 f6y_1)
          | (go_at_call 32; (with_reducible refine (sx_any z0 z1 v0 v1 (max 1 1) _ T2.out HV0.out HV1.out _ (by omega) pk_9 f3_9.q).mono ?_); rintro e w20 ⟨m7x, o7x, n7x, c7x, p7x, k7x, d7x, m7y, o7y, n7y, c7y, p7y, k7y, d7y, rfl, f7x_0, f7y_0, hb20⟩; have hB_10 := hB_9.trans (hb20.mono hB_9.size); have pa_10 := pa_9.below hb20; have pb_10 := pb_9.below hb20; have ps_10 := ps_9.below hb20; have f3_10 := f3_9.below hb20; have pk_10 := pk_9.below hb20; have qa_10 := qa_9.below hb20; have qb_10 := qb_9.below hb20; have qv_10 := qv_9.below hb20; have f4x_5 := f4x_4.below hb20; have f4y_5 := f4y_4.below hb20; have f5x_4 := f5x_3.below hb20; have f5y_4 := f5y_3.below hb20; have f6x_3 := f6x_2.below hb20; have f6y_3 := f6y_2.below hb20; clear hb20 hB_9 pa_9 pb_9 ps_9 f3_9 pk_9 qa_9 qb_9 qv_9 f4x_4 f4y_4 f5x_3 f5y_3 f6x_2 f6y_2)
          | (go_at_call 32; (with_reducible refine (sx_any x0 x1 a0 a1 (max 1 1) _ T0.out HA0.out HA1.out _ (by omega) pk_10 f3_10.q).mono ?_); rintro e w21 ⟨m8x, o8x, n8x, c8x, p8x, k8x, d8x, m8y, o8y, n8y, c8y, p8y, k8y, d8y, rfl, f8x_0, f8y_0, hb21⟩; have hB_11 := hB_10.trans (hb21.mono hB_10.size); have pa_11 := pa_10.below hb21; have pb_11 := pb_10.below hb21; have ps_11 := ps_10.below hb21; have f3_11 := f3_10.below hb21; have pk_11 := pk_10.below hb21; have qa_11 := qa_10.below hb21; have qb_11 := qb_10.below hb21; have qv_11 := qv_10.below hb21; have f4x_6 := f4x_5.below hb21; have f4y_6 := f4y_5.below hb21; have f5x_5 := f5x_4.below hb21; have f5y_5 := f5y_4.below hb21; have f6x_4 := f6x_3.below hb21; have f6y_4 := f6y_3.below hb21; have f7x_1 := f7x_0.below hb21; have f7y_1 := f7y_0.below hb21; clear hb21 hB_10 pa_10 pb_10 ps_10 f3_10 pk_10 qa_10 qb_10 qv_10 f4x_5 f4y_5 f5x_4 f5y_4 f6x_3 f6y_3 f7x_0 f7y_0)
          | (go_at_call 32; (with_reducible refine (sx_any y0 y1 b0 b1 (max 1 1) _ T1.out HB0.out HB1.out _ (by omega) pk_11 f3_11.q).mono ?_); rintro e w22 ⟨m9x, o9x, n9x, c9x, p9x, k9x, d9x, m9y, o9y, n9y, c9y, p9y, k9y, d9y, rfl, f9x_0, f9y_0, hb22⟩; have hB_12 := hB_11.trans (hb22.mono hB_11.size); have pa_12 := pa_11.below hb22; have pb_12 := pb_11.below hb22; have ps_12 := ps_11.below hb22; have f3_12 := f3_11.below hb22; have pk_12 := pk_11.below hb22; have qa_12 := qa_11.below hb22; have qb_12 := qb_11.below hb22; have qv_12 := qv_11.below hb22; have f4x_7 := f4x_6.below hb22; have f4y_7 := f4y_6.below hb22; have f5x_6 := f5x_5.below hb22; have f5y_6 := f5y_5.below hb22; have f6x_5 := f6x_4.below hb22; have f6y_5 := f6y_4.below hb22; have f7x_2 := f7x_1.below hb22; have f7y_2 := f7y_1.below hb22; have f8x_1 := f8x_0.below hb22; have f8y_1 := f8y_0.below hb22; clear hb22 hB_11 pa_11 pb_11 ps_11 f3_11 pk_11 qa_11 qb_11 qv_11 f4x_6 f4y_6 f5x_5 f5y_5 f6x_4 f6y_4 f7x_1 f7y_1 f8x_0 f8y_0)
          | (go_at_call 26; (with_reducible refine (sOn_any (max 1 1 + 1 + 2) _ _ (max 1 1 + 1 + 2) _ _ (max 1 1 + 1 + 2) _ _ _ (by omega) (by omega) (by omega) f7x_2.q f7y_2.q f8x_1.q f8y_1.q f9x_0.q f9y_0.q q ((on_times (KPOS.out) _ _ _ _ _ _).trans HQ.out)).mono ?_); rintro e w23 ⟨rfl, hb23⟩; have hB_13 := hB_12.trans (hb23.mono hB_12.size); have pa_13 := pa_12.below hb23; have pb_13 := pb_12.below hb23; have ps_13 := ps_12.below hb23; have f3_13 := f3_12.below hb23; have pk_13 := pk_12.below hb23; have qa_13 := qa_12.below hb23; have qb_13 := qb_12.below hb23; have qv_13 := qv_12.below hb23; have f4x_8 := f4x_7.below hb23; have f4y_8 := f4y_7.below hb23; have f5x_7 := f5x_6.below hb23; have f5y_7 := f5y_6.below hb23; have f6x_6 := f6x_5.below hb23; have f6y_6 := f6y_5.below hb23; have f7x_3 := f7x_2.below hb23; have f7y_3 := f7y_2.below hb23; have f8x_2 := f8x_1.below hb23; have f8y_2 := f8y_1.below hb23; have f9x_1 := f9x_0.below hb23; have f9y_1 := f9y_0.below hb23; clear hb23 hB_12 pa_12 pb_12 ps_12 f3_12 pk_12 qa_12 qb_12 qv_12 f4x_7 f4y_7 f5x_6 f5y_6 f6x_5 f6y_5 f7x_2 f7y_2 f8x_1 f8y_1 f9x_0 f9y_0)
          | (go_at_call 33; (with_reducible refine (On_is v0 v1 a0 a1 b0 b1 HV0.out HV1.out HA0.out HA1.out HB0.out HB1.out q HQ.out _).mono ?_); rintro e w24 ⟨rfl, hb24⟩; have hB_14 := hB_13.trans (hb24.mono hB_13.size); have pa_14 := pa_13.below hb24; have pb_14 := pb_13.below hb24; have ps_14 := ps_13.below hb24; have f3_14 := f3_13.below hb24; have pk_14 := pk_13.below hb24; have qa_14 := qa_13.below hb24; have qb_14 := qb_13.below hb24; have qv_14 := qv_13.below hb24; have f4x_9 := f4x_8.below hb24; have f4y_9 := f4y_8.below hb24; have f5x_8 := f5x_7.below hb24; have f5y_8 := f5y_7.below hb24; have f6x_7 := f6x_6.below hb24; have f6y_7 := f6y_6.below hb24; have f7x_4 := f7x_3.below hb24; have f7y_4 := f7y_3.below hb24; have f8x_3 := f8x_2.below hb24; have f8y_3 := f8y_2.below hb24; have f9x_2 := f9x_1.below hb24; have f9y_2 := f9y_1.below hb24; clear hb24 hB_13 pa_13 pb_13 ps_13 f3_13 pk_13 qa_13 qb_13 qv_13 f4x_8 f4y_8 f5x_7 f5y_7 f6x_6 f6y_6 f7x_3 f7y_3 f8x_2 f8y_2 f9x_1 f9y_1))
      clear f4x_9 f4y_9
      clear f5x_8 f5y_8
      clear f6x_7 f6y_7
      clear f7x_4 f7y_4
      clear f8x_3 f8y_3
      clear f9x_2 f9y_2
      clear f3_14 pk_14 pa_14 pb_14 ps_14
      go_wp2
      have hWk_0 := Below.refl w24.heap.size w24
      have hsk : w.heap.size ≤ w24.heap.size := hB_14.size
      have hlkqa := qa_14.lt
      have hlkqb := qb_14.lt
      have hlkqv := qv_14.lt
      have hB_15 := hB_14.drew'
      have qa_15 := qa_14.drew
      have qb_15 := qb_14.drew
      have qv_15 := qv_14.drew
      have hWk_1 := hWk_0.drew'
      clear hB_14 qa_14 qb_14 qv_14 hWk_0
      refine wp_region_noPanic ?_
      refine wp_region_held_drew (S := fun w' => w'.cell? ⟨gqa, 0, none⟩ = some (.int .i64 a0) ∧ w'.cell? ⟨gqa, 1, none⟩ = some (.int .i64 a1) ∧ w'.cell? ⟨gqb, 0, none⟩ = some (.int .i64 b0) ∧ w'.cell? ⟨gqb, 1, none⟩ = some (.int .i64 b1) ∧ w'.cell? ⟨gqv, 0, none⟩ = some (.int .i64 v0) ∧ w'.cell? ⟨gqv, 1, none⟩ = some (.int .i64 v1)) (by kernel_rfl) (⟨qa_15.c0, qa_15.c1, qb_15.c0, qb_15.c1, qv_15.c0, qv_15.c1⟩) (fun hHeld => ?_)
      refine reg_take 0 ?_ ?_ ?_ (by kernel_rfl) (by kernel_rfl) (by kernel_rfl) (fun _ _ _ h => h) ?_ ?_ (by assumption) ?_
      rotate_left 2
      · simp only [List.getElem?_toArray, List.getElem?_cons_zero]; exact rfl
      · rfl
      · intro w hSw; (try dsimp only at hSw); go_simp; try with_reducible rfl
      try simp only [Act.put]
      try simp only [List.setIfInBounds_toArray, List.set_cons_zero, List.set_cons_succ]
      refine reg_take 2 ?_ ?_ ?_ (by kernel_rfl) (by kernel_rfl) (by kernel_rfl) (fun _ _ _ h => h) ?_ ?_ (by assumption) ?_
      rotate_left 2
      · simp only [List.getElem?_toArray, List.getElem?_cons_succ, List.getElem?_cons_zero]; exact rfl
      · rfl
      · intro w hSw; (try dsimp only at hSw); go_simp; try with_reducible rfl
      try simp only [Act.put]
      try simp only [List.setIfInBounds_toArray, List.set_cons_zero, List.set_cons_succ]
      refine reg_take 4 ?_ ?_ ?_ (by kernel_rfl) (by kernel_rfl) (by kernel_rfl) (fun _ _ _ h => h) ?_ ?_ (by assumption) ?_
      rotate_left 2
      · simp only [List.getElem?_toArray, List.getElem?_cons_succ, List.getElem?_cons_zero]; exact rfl
      · rfl
      · intro w hSw; (try dsimp only at hSw); go_simp; try with_reducible rfl
      try simp only [Act.put]
      try simp only [List.setIfInBounds_toArray, List.set_cons_zero, List.set_cons_succ]
      refine reg_take 8 ?_ ?_ ?_ (by kernel_rfl) (by kernel_rfl) (by kernel_rfl) (fun _ _ _ h => h) ?_ ?_ (by assumption) ?_
      rotate_left 2
      · simp only [List.getElem?_toArray, List.getElem?_cons_succ, List.getElem?_cons_zero]; exact rfl
      · rfl
      · intro w hSw; (try dsimp only at hSw); go_simp; try with_reducible rfl
      try simp only [Act.put]
      try simp only [List.setIfInBounds_toArray, List.set_cons_zero, List.set_cons_succ]
      refine reg_take 9 ?_ ?_ ?_ (by kernel_rfl) (by kernel_rfl) (by kernel_rfl) (fun _ _ _ h => h) ?_ ?_ (by assumption) ?_
      rotate_left 2
      · simp only [List.getElem?_toArray, List.getElem?_cons_succ, List.getElem?_cons_zero]; exact rfl
      · rfl
      · intro w hSw; (try dsimp only at hSw); go_simp; try with_reducible rfl
      try simp only [Act.put]
      try simp only [List.setIfInBounds_toArray, List.set_cons_zero, List.set_cons_succ]
      refine reg_take 10 ?_ ?_ ?_ (by kernel_rfl) (by kernel_rfl) (by kernel_rfl) (fun _ _ _ h => h) ?_ ?_ (by assumption) ?_
      rotate_left 2
      · simp only [List.getElem?_toArray, List.getElem?_cons_succ, List.getElem?_cons_zero]; exact rfl
      · rfl
      · intro w hSw; (try dsimp only at hSw); go_simp; try with_reducible rfl
      try simp only [Act.put]
      try simp only [List.setIfInBounds_toArray, List.set_cons_zero, List.set_cons_succ]
      refine reg_grab (fun WWk ak hWW hAA => ?_)
      have HWk := Lib.hid hWW; have HAk := Lib.hid hAA; clear hWW hAA hHeld
      have stk_16t : ∀ (w' : World) (m1x : Bool) (o1x : Option Addr) (n1x : Nat) (c1x : Nat) (p1x : Option Addr) (k1x : Nat) (d1x : Nat) (m1y : Bool) (o1y : Option Addr) (n1y : Nat) (c1y : Nat) (p1y : Option Addr) (k1y : Nat) (d1y : Nat) (m2x : Bool) (o2x : Option Addr) (n2x : Nat) (c2x : Nat) (p2x : Option Addr) (k2x : Nat) (d2x : Nat) (m2y : Bool) (o2y : Option Addr) (n2y : Nat) (c2y : Nat) (p2y : Option Addr) (k2y : Nat) (d2y : Nat) (m3x : Bool) (o3x : Option Addr) (n3x : Nat) (c3x : Nat) (p3x : Option Addr) (k3x : Nat) (d3x : Nat) (m3y : Bool) (o3y : Option Addr) (n3y : Nat) (c3y : Nat) (p3y : Option Addr) (k3y : Nat) (d3y : Nat) (m4 : Bool) (o4 : Option Addr) (n4 : Nat) (c4 : Nat) (p4 : Option Addr) (k4 : Nat) (d4 : Nat) (m5 : Bool) (o5 : Option Addr) (n5 : Nat) (c5 : Nat) (m6 : Bool) (o6 : Option Addr) (n6 : Nat) (c6 : Nat) (p6 : Option Addr) (k6 : Nat) (d6 : Nat) (m7x : Bool) (o7x : Option Addr) (n7x : Nat) (c7x : Nat) (p7x : Option Addr) (k7x : Nat) (d7x : Nat) (m7y : Bool) (o7y : Option Addr) (n7y : Nat) (c7y : Nat) (p7y : Option Addr) (k7y : Nat) (d7y : Nat) (m8x : Bool) (o8x : Option Addr) (n8x : Nat) (c8x : Nat) (p8x : Option Addr) (k8x : Nat) (d8x : Nat) (m8y : Bool) (o8y : Option Addr) (n8y : Nat) (c8y : Nat) (p8y : Option Addr) (k8y : Nat) (d8y : Nat) (m9 : Bool) (o9 : Option Addr) (n9 : Nat) (c9 : Nat) (p9 : Option Addr) (k9 : Nat) (d9 : Nat) (m10 : Bool) (o10 : Option Addr) (n10 : Nat) (c10 : Nat) (p10 : Option Addr) (k10 : Nat) (d10 : Nat) (m11 : Bool) (o11 : Option Addr) (n11 : Nat) (c11 : Nat) (m12 : Bool) (o12 : Option Addr) (n12 : Nat) (c12 : Nat) (m13 : Bool) (o13 : Option Addr) (n13 : Nat) (c13 : Nat) (m14 : Bool) (o14 : Option Addr) (n14 : Nat) (c14 : Nat) (p14 : Option Addr) (k14 : Nat) (d14 : Nat) (gpz : Nat), Below w.heap.size w w' → Box w' (gqa) [.int .i64 a0, .int .i64 a1] → Box w' (gqb) [.int .i64 b0, .int .i64 b1] → Box w' (gqv) [.int .i64 v0, .int .i64 v1] → Below w24.heap.size w24 w' → RF w' (.agg #[.bool m1x, .slice o1x n1x c1x, .slice p1x k1x d1x]) (1) ((a0 : Rat)) → RF w' (.agg #[.bool m1y, .slice o1y n1y c1y, .slice p1y k1y d1y]) (1) ((a1 : Rat)) → RF w' (.agg #[.bool m2x, .slice o2x n2x c2x, .slice p2x k2x d2x]) (1) ((b0 : Rat)) → RF w' (.agg #[.bool m2y, .slice o2y n2y c2y, .slice p2y k2y d2y]) (1) ((b1 : Rat)) → RF w' (.agg #[.bool m3x, .slice o3x n3x c3x, .slice p3x k3x d3x]) (1) ((v0 : Rat)) → RF w' (.agg #[.bool m3y, .slice o3y n3y c3y, .slice p3y k3y d3y]) (1) ((v1 : Rat)) → RF w' (.agg #[.bool m4, .slice o4 n4 c4, .slice p4 k4 d4]) (1 + 3 * (((1 + 1 + 2) + (1 + 1 + 2) + 2) + 2)) (areaQ [((a0 : Rat), (a1 : Rat)), ((b0 : Rat), (b1 : Rat)), ((v0 : Rat), (v1 : Rat))]) → RNum w' (.agg #[.bool m5, .slice o5 n5 c5]) (2) (crs a0 a1 b0 b1 v0 v1) → RF w' (.agg #[.bool m6, .slice o6 n6 c6, .slice p6 k6 d6]) (max 2 1) (((crs a0 a1 b0 b1 v0 v1 : Int) : Rat)) → RF w' (.agg #[.bool m7x, .slice o7x n7x c7x, .slice p7x k7x d7x]) (1) ((a0 : Rat)) → RF w' (.agg #[.bool m7y, .slice o7y n7y c7y, .slice p7y k7y d7y]) (1) ((a1 : Rat)) → RF w' (.agg #[.bool m8x, .slice o8x n8x c8x, .slice p8x k8x d8x]) (1) ((b0 : Rat)) → RF w' (.agg #[.bool m8y, .slice o8y n8y c8y, .slice p8y k8y d8y]) (1) ((b1 : Rat)) → RF w' (.agg #[.bool m9, .slice o9 n9 c9, .slice p9 k9 d9]) (((1 + 1 + 2) + (1 + 1 + 2) + 2) + ((1 + 1 + 2) + (1 + 1 + 2) + 2) + 2) (distQ a0 a1 b0 b1) → RF w' (.agg #[.bool m10, .slice o10 n10 c10, .slice p10 k10 d10]) (1 + (((1 + 1 + 2) + (1 + 1 + 2) + 2) + ((1 + 1 + 2) + (1 + 1 + 2) + 2) + 2) + 2) (((2 : Int) : Rat) * distQ a0 a1 b0 b1) → RNum w' (.agg #[.bool m11, .slice o11 n11 c11]) (1) (2) → RNum w' (.agg #[.bool m12, .slice o12 n12 c12]) (2) (sqd a0 a1 b0 b1) → RNum w' (.agg #[.bool m13, .slice o13 n13 c13]) (1 + 2) (2 * sqd a0 a1 b0 b1) → RF w' (.agg #[.bool m14, .slice o14 n14 c14, .slice p14 k14 d14]) (max (1 + 2) 1) (((2 * sqd a0 a1 b0 b1 : Int) : Rat)) → Box w' gpz [.bool m1x, .slice o1x n1x c1x, .slice p1x k1x d1x, .bool m1y, .slice o1y n1y c1y, .slice p1y k1y d1y, .bool m2x, .slice o2x n2x c2x, .slice p2x k2x d2x, .bool m2y, .slice o2y n2y c2y, .slice p2y k2y d2y, .bool m3x, .slice o3x n3x c3x, .slice p3x k3x d3x, .bool m3y, .slice o3y n3y c3y, .slice p3y k3y d3y] → w24.heap.size ≤ gpz → WWk 0 #[true, true, true, true, true, true, true, true, true, true, true, true, true, true, true, true, true, true, true, true, true, true, true, true, true, true, true, true, true, true] ((((((((((((((((((((((((ak.put (some 71) (.agg #[.bool m1x, .slice o1x n1x c1x, .slice p1x k1x d1x, .bool m1y, .slice o1y n1y c1y, .slice p1y k1y d1y])).put (some 73) (.agg #[.bool m2x, .slice o2x n2x c2x, .slice p2x k2x d2x, .bool m2y, .slice o2y n2y c2y, .slice p2y k2y d2y])).put (some 75) (.agg #[.bool m3x, .slice o3x n3x c3x, .slice p3x k3x d3x, .bool m3y, .slice o3y n3y c3y, .slice p3y k3y d3y])).put (some 76) (.slice (some ⟨gpz, 0, none⟩) 3 3)).put (some 77) (.agg #[.bool m4, .slice o4 n4 c4, .slice p4 k4 d4])).put (some 81) (.agg #[.bool m5, .slice o5 n5 c5])).put (some 82) (.agg #[.bool m6, .slice o6 n6 c6, .slice p6 k6 d6])).put (some 83) (.bool true)).put (some 84) (.bool true)).put (some 85) (.agg #[.int .i64 a0, .int .i64 a1])).put (some 86) (.agg #[.bool m7x, .slice o7x n7x c7x, .slice p7x k7x d7x, .bool m7y, .slice o7y n7y c7y, .slice p7y k7y d7y])).put (some 87) (.agg #[.int .i64 b0, .int .i64 b1])).put (some 88) (.agg #[.bool m8x, .slice o8x n8x c8x, .slice p8x k8x d8x, .bool m8y, .slice o8y n8y c8y, .slice p8y k8y d8y])).put (some 89) (.agg #[.bool m9, .slice o9 n9 c9, .slice p9 k9 d9])).put (some 90) (.agg #[.bool m10, .slice o10 n10 c10, .slice p10 k10 d10])).put (some 91) (.agg #[.bool m11, .slice o11 n11 c11])).put (some 92) (.agg #[.int .i64 a0, .int .i64 a1])).put (some 93) (.agg #[.int .i64 b0, .int .i64 b1])).put (some 94) (.agg #[.bool m12, .slice o12 n12 c12])).put (some 95) (.agg #[.bool m13, .slice o13 n13 c13])).put (some 96) (.agg #[.bool m14, .slice o14 n14 c14, .slice p14 k14 d14])).put (some 97) (.bool true)).put (some 98) (.bool true)).put (some 4) (.bool true)) w' := by
        intro w25 m1x o1x n1x c1x p1x k1x d1x m1y o1y n1y c1y p1y k1y d1y m2x o2x n2x c2x p2x k2x d2x m2y o2y n2y c2y p2y k2y d2y m3x o3x n3x c3x p3x k3x d3x m3y o3y n3y c3y p3y k3y d3y m4 o4 n4 c4 p4 k4 d4 m5 o5 n5 c5 m6 o6 n6 c6 p6 k6 d6 m7x o7x n7x c7x p7x k7x d7x m7y o7y n7y c7y p7y k7y d7y m8x o8x n8x c8x p8x k8x d8x m8y o8y n8y c8y p8y k8y d8y m9 o9 n9 c9 p9 k9 d9 m10 o10 n10 c10 p10 k10 d10 m11 o11 n11 c11 m12 o12 n12 c12 m13 o13 n13 c13 m14 o14 n14 c14 p14 k14 d14 gpz hB_0 qa_0 qb_0 qv_0 hWk_0 f1x_0 f1y_0 f2x_0 f2y_0 f3x_0 f3y_0 f4_0 f5_0 f6_0 f7x_0 f7y_0 f8x_0 f8y_0 f9_0 f10_0 f11_0 f12_0 f13_0 f14_0 pz_0 hgpz
        rw [HWk.out, HAk.out]
        try simp only [Act.put]
        try simp only [List.setIfInBounds_toArray, List.set_cons_zero, List.set_cons_succ]
        clear hWk_0
        refine wpAnyH_done (by kernel_rfl) ?_ _
        refine NoPanic.normal ?_
        go_wp2
        go_ret
        exact ⟨rfl, hB_0⟩
      simp only [HAk.out, Act.put, List.setIfInBounds_toArray, List.set_cons_zero, List.set_cons_succ] at stk_16t
      have stk_15t : ∀ (w' : World) (m1x : Bool) (o1x : Option Addr) (n1x : Nat) (c1x : Nat) (p1x : Option Addr) (k1x : Nat) (d1x : Nat) (m1y : Bool) (o1y : Option Addr) (n1y : Nat) (c1y : Nat) (p1y : Option Addr) (k1y : Nat) (d1y : Nat) (m2x : Bool) (o2x : Option Addr) (n2x : Nat) (c2x : Nat) (p2x : Option Addr) (k2x : Nat) (d2x : Nat) (m2y : Bool) (o2y : Option Addr) (n2y : Nat) (c2y : Nat) (p2y : Option Addr) (k2y : Nat) (d2y : Nat) (m3x : Bool) (o3x : Option Addr) (n3x : Nat) (c3x : Nat) (p3x : Option Addr) (k3x : Nat) (d3x : Nat) (m3y : Bool) (o3y : Option Addr) (n3y : Nat) (c3y : Nat) (p3y : Option Addr) (k3y : Nat) (d3y : Nat) (m4 : Bool) (o4 : Option Addr) (n4 : Nat) (c4 : Nat) (p4 : Option Addr) (k4 : Nat) (d4 : Nat) (m5 : Bool) (o5 : Option Addr) (n5 : Nat) (c5 : Nat) (m6 : Bool) (o6 : Option Addr) (n6 : Nat) (c6 : Nat) (p6 : Option Addr) (k6 : Nat) (d6 : Nat) (m7x : Bool) (o7x : Option Addr) (n7x : Nat) (c7x : Nat) (p7x : Option Addr) (k7x : Nat) (d7x : Nat) (m7y : Bool) (o7y : Option Addr) (n7y : Nat) (c7y : Nat) (p7y : Option Addr) (k7y : Nat) (d7y : Nat) (m8x : Bool) (o8x : Option Addr) (n8x : Nat) (c8x : Nat) (p8x : Option Addr) (k8x : Nat) (d8x : Nat) (m8y : Bool) (o8y : Option Addr) (n8y : Nat) (c8y : Nat) (p8y : Option Addr) (k8y : Nat) (d8y : Nat) (m9 : Bool) (o9 : Option Addr) (n9 : Nat) (c9 : Nat) (p9 : Option Addr) (k9 : Nat) (d9 : Nat) (m10 : Bool) (o10 : Option Addr) (n10 : Nat) (c10 : Nat) (p10 : Option Addr) (k10 : Nat) (d10 : Nat) (m11 : Bool) (o11 : Option Addr) (n11 : Nat) (c11 : Nat) (m12 : Bool) (o12 : Option Addr) (n12 : Nat) (c12 : Nat) (m13 : Bool) (o13 : Option Addr) (n13 : Nat) (c13 : Nat) (m14 : Bool) (o14 : Option Addr) (n14 : Nat) (c14 : Nat) (p14 : Option Addr) (k14 : Nat) (d14 : Nat) (gpz : Nat), Below w.heap.size w w' → Box w' (gqa) [.int .i64 a0, .int .i64 a1] → Box w' (gqb) [.int .i64 b0, .int .i64 b1] → Box w' (gqv) [.int .i64 v0, .int .i64 v1] → Below w24.heap.size w24 w' → RF w' (.agg #[.bool m1x, .slice o1x n1x c1x, .slice p1x k1x d1x]) (1) ((a0 : Rat)) → RF w' (.agg #[.bool m1y, .slice o1y n1y c1y, .slice p1y k1y d1y]) (1) ((a1 : Rat)) → RF w' (.agg #[.bool m2x, .slice o2x n2x c2x, .slice p2x k2x d2x]) (1) ((b0 : Rat)) → RF w' (.agg #[.bool m2y, .slice o2y n2y c2y, .slice p2y k2y d2y]) (1) ((b1 : Rat)) → RF w' (.agg #[.bool m3x, .slice o3x n3x c3x, .slice p3x k3x d3x]) (1) ((v0 : Rat)) → RF w' (.agg #[.bool m3y, .slice o3y n3y c3y, .slice p3y k3y d3y]) (1) ((v1 : Rat)) → RF w' (.agg #[.bool m4, .slice o4 n4 c4, .slice p4 k4 d4]) (1 + 3 * (((1 + 1 + 2) + (1 + 1 + 2) + 2) + 2)) (areaQ [((a0 : Rat), (a1 : Rat)), ((b0 : Rat), (b1 : Rat)), ((v0 : Rat), (v1 : Rat))]) → RNum w' (.agg #[.bool m5, .slice o5 n5 c5]) (2) (crs a0 a1 b0 b1 v0 v1) → RF w' (.agg #[.bool m6, .slice o6 n6 c6, .slice p6 k6 d6]) (max 2 1) (((crs a0 a1 b0 b1 v0 v1 : Int) : Rat)) → RF w' (.agg #[.bool m7x, .slice o7x n7x c7x, .slice p7x k7x d7x]) (1) ((a0 : Rat)) → RF w' (.agg #[.bool m7y, .slice o7y n7y c7y, .slice p7y k7y d7y]) (1) ((a1 : Rat)) → RF w' (.agg #[.bool m8x, .slice o8x n8x c8x, .slice p8x k8x d8x]) (1) ((b0 : Rat)) → RF w' (.agg #[.bool m8y, .slice o8y n8y c8y, .slice p8y k8y d8y]) (1) ((b1 : Rat)) → RF w' (.agg #[.bool m9, .slice o9 n9 c9, .slice p9 k9 d9]) (((1 + 1 + 2) + (1 + 1 + 2) + 2) + ((1 + 1 + 2) + (1 + 1 + 2) + 2) + 2) (distQ a0 a1 b0 b1) → RF w' (.agg #[.bool m10, .slice o10 n10 c10, .slice p10 k10 d10]) (1 + (((1 + 1 + 2) + (1 + 1 + 2) + 2) + ((1 + 1 + 2) + (1 + 1 + 2) + 2) + 2) + 2) (((2 : Int) : Rat) * distQ a0 a1 b0 b1) → RNum w' (.agg #[.bool m11, .slice o11 n11 c11]) (1) (2) → RNum w' (.agg #[.bool m12, .slice o12 n12 c12]) (2) (sqd a0 a1 b0 b1) → RNum w' (.agg #[.bool m13, .slice o13 n13 c13]) (1 + 2) (2 * sqd a0 a1 b0 b1) → RF w' (.agg #[.bool m14, .slice o14 n14 c14, .slice p14 k14 d14]) (max (1 + 2) 1) (((2 * sqd a0 a1 b0 b1 : Int) : Rat)) → Box w' gpz [.bool m1x, .slice o1x n1x c1x, .slice p1x k1x d1x, .bool m1y, .slice o1y n1y c1y, .slice p1y k1y d1y, .bool m2x, .slice o2x n2x c2x, .slice p2x k2x d2x, .bool m2y, .slice o2y n2y c2y, .slice p2y k2y d2y, .bool m3x, .slice o3x n3x c3x, .slice p3x k3x d3x, .bool m3y, .slice o3y n3y c3y, .slice p3y k3y d3y] → w24.heap.size ≤ gpz → WWk 3 #[true, true, true, true, true, true, true, true, true, true, true, true, true, true, true, true, true, true, true, true, true, true, true, true, true, true, true, false, false, false] (((((((((((((((((((((ak.put (some 71) (.agg #[.bool m1x, .slice o1x n1x c1x, .slice p1x k1x d1x, .bool m1y, .slice o1y n1y c1y, .slice p1y k1y d1y])).put (some 73) (.agg #[.bool m2x, .slice o2x n2x c2x, .slice p2x k2x d2x, .bool m2y, .slice o2y n2y c2y, .slice p2y k2y d2y])).put (some 75) (.agg #[.bool m3x, .slice o3x n3x c3x, .slice p3x k3x d3x, .bool m3y, .slice o3y n3y c3y, .slice p3y k3y d3y])).put (some 76) (.slice (some ⟨gpz, 0, none⟩) 3 3)).put (some 77) (.agg #[.bool m4, .slice o4 n4 c4, .slice p4 k4 d4])).put (some 81) (.agg #[.bool m5, .slice o5 n5 c5])).put (some 82) (.agg #[.bool m6, .slice o6 n6 c6, .slice p6 k6 d6])).put (some 83) (.bool true)).put (some 84) (.bool true)).put (some 85) (.agg #[.int .i64 a0, .int .i64 a1])).put (some 86) (.agg #[.bool m7x, .slice o7x n7x c7x, .slice p7x k7x d7x, .bool m7y, .slice o7y n7y c7y, .slice p7y k7y d7y])).put (some 87) (.agg #[.int .i64 b0, .int .i64 b1])).put (some 88) (.agg #[.bool m8x, .slice o8x n8x c8x, .slice p8x k8x d8x, .bool m8y, .slice o8y n8y c8y, .slice p8y k8y d8y])).put (some 89) (.agg #[.bool m9, .slice o9 n9 c9, .slice p9 k9 d9])).put (some 90) (.agg #[.bool m10, .slice o10 n10 c10, .slice p10 k10 d10])).put (some 91) (.agg #[.bool m11, .slice o11 n11 c11])).put (some 92) (.agg #[.int .i64 a0, .int .i64 a1])).put (some 93) (.agg #[.int .i64 b0, .int .i64 b1])).put (some 94) (.agg #[.bool m12, .slice o12 n12 c12])).put (some 95) (.agg #[.bool m13, .slice o13 n13 c13])).put (some 96) (.agg #[.bool m14, .slice o14 n14 c14, .slice p14 k14 d14])) w' := by
        intro w26 m1x o1x n1x c1x p1x k1x d1x m1y o1y n1y c1y p1y k1y d1y m2x o2x n2x c2x p2x k2x d2x m2y o2y n2y c2y p2y k2y d2y m3x o3x n3x c3x p3x k3x d3x m3y o3y n3y c3y p3y k3y d3y m4 o4 n4 c4 p4 k4 d4 m5 o5 n5 c5 m6 o6 n6 c6 p6 k6 d6 m7x o7x n7x c7x p7x k7x d7x m7y o7y n7y c7y p7y k7y d7y m8x o8x n8x c8x p8x k8x d8x m8y o8y n8y c8y p8y k8y d8y m9 o9 n9 c9 p9 k9 d9 m10 o10 n10 c10 p10 k10 d10 m11 o11 n11 c11 m12 o12 n12 c12 m13 o13 n13 c13 m14 o14 n14 c14 p14 k14 d14 gpz hB_0 qa_0 qb_0 qv_0 hWk_0 f1x_0 f1y_0 f2x_0 f2y_0 f3x_0 f3y_0 f4_0 f5_0 f6_0 f7x_0 f7y_0 f8x_0 f8y_0 f9_0 f10_0 f11_0 f12_0 f13_0 f14_0 pz_0 hgpz
        rw [HWk.out, HAk.out]
        try simp only [Act.put]
        try simp only [List.setIfInBounds_toArray, List.set_cons_zero, List.set_cons_succ]
        refine reg_all1 27 ?_ (by kernel_rfl) ?_ (fun K hK => ?_)
        rotate_left 1
        · simp only [List.getElem?_toArray, List.getElem?_cons_succ, List.getElem?_cons_zero]; exact rfl
        · go_simp
          refine (qSame_yes _ _ _ _ _ _ _ (by omega) (by omega) f10_0.q f14_0.q (by rw [dist_int, ic_mul])).mono ?_
          rintro e w27 ⟨rfl, hb27⟩
          have hB_1 := hB_0.trans (hb27.mono hB_0.size)
          have qa_1 := qa_0.below hb27
          have qb_1 := qb_0.below hb27
          have qv_1 := qv_0.below hb27
          have hWk_1 := hWk_0.trans (hb27.mono hWk_0.size)
          have f1x_1 := f1x_0.below hb27
          have f1y_1 := f1y_0.below hb27
          have f2x_1 := f2x_0.below hb27
          have f2y_1 := f2y_0.below hb27
          have f3x_1 := f3x_0.below hb27
          have f3y_1 := f3y_0.below hb27
          have f4_1 := f4_0.below hb27
          have f5_1 := f5_0.below hb27
          have f6_1 := f6_0.below hb27
          have f7x_1 := f7x_0.below hb27
          have f7y_1 := f7y_0.below hb27
          have f8x_1 := f8x_0.below hb27
          have f8y_1 := f8y_0.below hb27
          have f9_1 := f9_0.below hb27
          have f10_1 := f10_0.below hb27
          have f11_1 := f11_0.below hb27
          have f12_1 := f12_0.below hb27
          have f13_1 := f13_0.below hb27
          have f14_1 := f14_0.below hb27
          have pz_1 := pz_0.below hb27
          clear hb27 hB_0 qa_0 qb_0 qv_0 hWk_0 f1x_0 f1y_0 f2x_0 f2y_0 f3x_0 f3y_0 f4_0 f5_0 f6_0 f7x_0 f7y_0 f8x_0 f8y_0 f9_0 f10_0 f11_0 f12_0 f13_0 f14_0 pz_0
          go_wp2_with fail
          refine hK.out _ _ ⟨qa_1.c0, qa_1.c1, qb_1.c0, qb_1.c1, qv_1.c0, qv_1.c1⟩ (fun hHeld => ?_)
          clear hK K
          try simp only [Act.put]
          try simp only [List.setIfInBounds_toArray, List.set_cons_zero, List.set_cons_succ]
          refine reg_take 28 ?_ ?_ ?_ (by kernel_rfl) (by kernel_rfl) (by kernel_rfl) (fun _ _ _ h => h) ?_ ?_ (by assumption) ?_
          rotate_left 2
          · simp only [List.getElem?_toArray, List.getElem?_cons_succ, List.getElem?_cons_zero]; exact rfl
          · rfl
          · intro w hSw; (try dsimp only at hSw); go_simp; try with_reducible rfl
          try simp only [Act.put]
          try simp only [List.setIfInBounds_toArray, List.set_cons_zero, List.set_cons_succ]
          refine reg_take 29 ?_ ?_ ?_ (by kernel_rfl) (by kernel_rfl) (by kernel_rfl) (fun _ _ _ h => h) ?_ ?_ (by assumption) ?_
          rotate_left 2
          · simp only [List.getElem?_toArray, List.getElem?_cons_succ, List.getElem?_cons_zero]; exact rfl
          · rfl
          · intro w hSw; (try dsimp only at hSw); go_simp; try with_reducible rfl
          try simp only [Act.put]
          try simp only [List.setIfInBounds_toArray, List.set_cons_zero, List.set_cons_succ]
          rw [← HWk.out]
          exact stk_16t _ m1x o1x n1x c1x p1x k1x d1x m1y o1y n1y c1y p1y k1y d1y m2x o2x n2x c2x p2x k2x d2x m2y o2y n2y c2y p2y k2y d2y m3x o3x n3x c3x p3x k3x d3x m3y o3y n3y c3y p3y k3y d3y m4 o4 n4 c4 p4 k4 d4 m5 o5 n5 c5 m6 o6 n6 c6 p6 k6 d6 m7x o7x n7x c7x p7x k7x d7x m7y o7y n7y c7y p7y k7y d7y m8x o8x n8x c8x p8x k8x d8x m8y o8y n8y c8y p8y k8y d8y m9 o9 n9 c9 p9 k9 d9 m10 o10 n10 c10 p10 k10 d10 m11 o11 n11 c11 m12 o12 n12 c12 m13 o13 n13 c13 m14 o14 n14 c14 p14 k14 d14 gpz hB_1 qa_1 qb_1 qv_1 hWk_1 f1x_1 f1y_1 f2x_1 f2y_1 f3x_1 f3y_1 f4_1 f5_1 f6_1 f7x_1 f7y_1 f8x_1 f8y_1 f9_1 f10_1 f11_1 f12_1 f13_1 f14_1 pz_1 (by omega)
      try simp only [HAk.out, Act.put, List.setIfInBounds_toArray, List.set_cons_zero, List.set_cons_succ] at stk_15t
      have stk_14t : ∀ (w' : World) (m1x : Bool) (o1x : Option Addr) (n1x : Nat) (c1x : Nat) (p1x : Option Addr) (k1x : Nat) (d1x : Nat) (m1y : Bool) (o1y : Option Addr) (n1y : Nat) (c1y : Nat) (p1y : Option Addr) (k1y : Nat) (d1y : Nat) (m2x : Bool) (o2x : Option Addr) (n2x : Nat) (c2x : Nat) (p2x : Option Addr) (k2x : Nat) (d2x : Nat) (m2y : Bool) (o2y : Option Addr) (n2y : Nat) (c2y : Nat) (p2y : Option Addr) (k2y : Nat) (d2y : Nat) (m3x : Bool) (o3x : Option Addr) (n3x : Nat) (c3x : Nat) (p3x : Option Addr) (k3x : Nat) (d3x : Nat) (m3y : Bool) (o3y : Option Addr) (n3y : Nat) (c3y : Nat) (p3y : Option Addr) (k3y : Nat) (d3y : Nat) (m4 : Bool) (o4 : Option Addr) (n4 : Nat) (c4 : Nat) (p4 : Option Addr) (k4 : Nat) (d4 : Nat) (m5 : Bool) (o5 : Option Addr) (n5 : Nat) (c5 : Nat) (m6 : Bool) (o6 : Option Addr) (n6 : Nat) (c6 : Nat) (p6 : Option Addr) (k6 : Nat) (d6 : Nat) (m7x : Bool) (o7x : Option Addr) (n7x : Nat) (c7x : Nat) (p7x : Option Addr) (k7x : Nat) (d7x : Nat) (m7y : Bool) (o7y : Option Addr) (n7y : Nat) (c7y : Nat) (p7y : Option Addr) (k7y : Nat) (d7y : Nat) (m8x : Bool) (o8x : Option Addr) (n8x : Nat) (c8x : Nat) (p8x : Option Addr) (k8x : Nat) (d8x : Nat) (m8y : Bool) (o8y : Option Addr) (n8y : Nat) (c8y : Nat) (p8y : Option Addr) (k8y : Nat) (d8y : Nat) (m9 : Bool) (o9 : Option Addr) (n9 : Nat) (c9 : Nat) (p9 : Option Addr) (k9 : Nat) (d9 : Nat) (m10 : Bool) (o10 : Option Addr) (n10 : Nat) (c10 : Nat) (p10 : Option Addr) (k10 : Nat) (d10 : Nat) (m11 : Bool) (o11 : Option Addr) (n11 : Nat) (c11 : Nat) (m12 : Bool) (o12 : Option Addr) (n12 : Nat) (c12 : Nat) (m13 : Bool) (o13 : Option Addr) (n13 : Nat) (c13 : Nat) (gpz : Nat), Below w.heap.size w w' → Box w' (gqa) [.int .i64 a0, .int .i64 a1] → Box w' (gqb) [.int .i64 b0, .int .i64 b1] → Box w' (gqv) [.int .i64 v0, .int .i64 v1] → Below w24.heap.size w24 w' → RF w' (.agg #[.bool m1x, .slice o1x n1x c1x, .slice p1x k1x d1x]) (1) ((a0 : Rat)) → RF w' (.agg #[.bool m1y, .slice o1y n1y c1y, .slice p1y k1y d1y]) (1) ((a1 : Rat)) → RF w' (.agg #[.bool m2x, .slice o2x n2x c2x, .slice p2x k2x d2x]) (1) ((b0 : Rat)) → RF w' (.agg #[.bool m2y, .slice o2y n2y c2y, .slice p2y k2y d2y]) (1) ((b1 : Rat)) → RF w' (.agg #[.bool m3x, .slice o3x n3x c3x, .slice p3x k3x d3x]) (1) ((v0 : Rat)) → RF w' (.agg #[.bool m3y, .slice o3y n3y c3y, .slice p3y k3y d3y]) (1) ((v1 : Rat)) → RF w' (.agg #[.bool m4, .slice o4 n4 c4, .slice p4 k4 d4]) (1 + 3 * (((1 + 1 + 2) + (1 + 1 + 2) + 2) + 2)) (areaQ [((a0 : Rat), (a1 : Rat)), ((b0 : Rat), (b1 : Rat)), ((v0 : Rat), (v1 : Rat))]) → RNum w' (.agg #[.bool m5, .slice o5 n5 c5]) (2) (crs a0 a1 b0 b1 v0 v1) → RF w' (.agg #[.bool m6, .slice o6 n6 c6, .slice p6 k6 d6]) (max 2 1) (((crs a0 a1 b0 b1 v0 v1 : Int) : Rat)) → RF w' (.agg #[.bool m7x, .slice o7x n7x c7x, .slice p7x k7x d7x]) (1) ((a0 : Rat)) → RF w' (.agg #[.bool m7y, .slice o7y n7y c7y, .slice p7y k7y d7y]) (1) ((a1 : Rat)) → RF w' (.agg #[.bool m8x, .slice o8x n8x c8x, .slice p8x k8x d8x]) (1) ((b0 : Rat)) → RF w' (.agg #[.bool m8y, .slice o8y n8y c8y, .slice p8y k8y d8y]) (1) ((b1 : Rat)) → RF w' (.agg #[.bool m9, .slice o9 n9 c9, .slice p9 k9 d9]) (((1 + 1 + 2) + (1 + 1 + 2) + 2) + ((1 + 1 + 2) + (1 + 1 + 2) + 2) + 2) (distQ a0 a1 b0 b1) → RF w' (.agg #[.bool m10, .slice o10 n10 c10, .slice p10 k10 d10]) (1 + (((1 + 1 + 2) + (1 + 1 + 2) + 2) + ((1 + 1 + 2) + (1 + 1 + 2) + 2) + 2) + 2) (((2 : Int) : Rat) * distQ a0 a1 b0 b1) → RNum w' (.agg #[.bool m11, .slice o11 n11 c11]) (1) (2) → RNum w' (.agg #[.bool m12, .slice o12 n12 c12]) (2) (sqd a0 a1 b0 b1) → RNum w' (.agg #[.bool m13, .slice o13 n13 c13]) (1 + 2) (2 * sqd a0 a1 b0 b1) → Box w' gpz [.bool m1x, .slice o1x n1x c1x, .slice p1x k1x d1x, .bool m1y, .slice o1y n1y c1y, .slice p1y k1y d1y, .bool m2x, .slice o2x n2x c2x, .slice p2x k2x d2x, .bool m2y, .slice o2y n2y c2y, .slice p2y k2y d2y, .bool m3x, .slice o3x n3x c3x, .slice p3x k3x d3x, .bool m3y, .slice o3y n3y c3y, .slice p3y k3y d3y] → w24.heap.size ≤ gpz → WWk 4 #[true, true, true, true, true, true, true, true, true, true, true, true, true, true, true, true, true, true, true, true, true, true, true, true, true, true, false, false, false, false] ((((((((((((((((((((ak.put (some 71) (.agg #[.bool m1x, .slice o1x n1x c1x, .slice p1x k1x d1x, .bool m1y, .slice o1y n1y c1y, .slice p1y k1y d1y])).put (some 73) (.agg #[.bool m2x, .slice o2x n2x c2x, .slice p2x k2x d2x, .bool m2y, .slice o2y n2y c2y, .slice p2y k2y d2y])).put (some 75) (.agg #[.bool m3x, .slice o3x n3x c3x, .slice p3x k3x d3x, .bool m3y, .slice o3y n3y c3y, .slice p3y k3y d3y])).put (some 76) (.slice (some ⟨gpz, 0, none⟩) 3 3)).put (some 77) (.agg #[.bool m4, .slice o4 n4 c4, .slice p4 k4 d4])).put (some 81) (.agg #[.bool m5, .slice o5 n5 c5])).put (some 82) (.agg #[.bool m6, .slice o6 n6 c6, .slice p6 k6 d6])).put (some 83) (.bool true)).put (some 84) (.bool true)).put (some 85) (.agg #[.int .i64 a0, .int .i64 a1])).put (some 86) (.agg #[.bool m7x, .slice o7x n7x c7x, .slice p7x k7x d7x, .bool m7y, .slice o7y n7y c7y, .slice p7y k7y d7y])).put (some 87) (.agg #[.int .i64 b0, .int .i64 b1])).put (some 88) (.agg #[.bool m8x, .slice o8x n8x c8x, .slice p8x k8x d8x, .bool m8y, .slice o8y n8y c8y, .slice p8y k8y d8y])).put (some 89) (.agg #[.bool m9, .slice o9 n9 c9, .slice p9 k9 d9])).put (some 90) (.agg #[.bool m10, .slice o10 n10 c10, .slice p10 k10 d10])).put (some 91) (.agg #[.bool m11, .slice o11 n11 c11])).put (some 92) (.agg #[.int .i64 a0, .int .i64 a1])).put (some 93) (.agg #[.int .i64 b0, .int .i64 b1])).put (some 94) (.agg #[.bool m12, .slice o12 n12 c12])).put (some 95) (.agg #[.bool m13, .slice o13 n13 c13])) w' := by
        intro w28 m1x o1x n1x c1x p1x k1x d1x m1y o1y n1y c1y p1y k1y d1y m2x o2x n2x c2x p2x k2x d2x m2y o2y n2y c2y p2y k2y d2y m3x o3x n3x c3x p3x k3x d3x m3y o3y n3y c3y p3y k3y d3y m4 o4 n4 c4 p4 k4 d4 m5 o5 n5 c5 m6 o6 n6 c6 p6 k6 d6 m7x o7x n7x c7x p7x k7x d7x m7y o7y n7y c7y p7y k7y d7y m8x o8x n8x c8x p8x k8x d8x m8y o8y n8y c8y p8y k8y d8y m9 o9 n9 c9 p9 k9 d9 m10 o10 n10 c10 p10 k10 d10 m11 o11 n11 c11 m12 o12 n12 c12 m13 o13 n13 c13 gpz hB_0 qa_0 qb_0 qv_0 hWk_0 f1x_0 f1y_0 f2x_0 f2y_0 f3x_0 f3y_0 f4_0 f5_0 f6_0 f7x_0 f7y_0 f8x_0 f8y_0 f9_0 f10_0 f11_0 f12_0 f13_0 pz_0 hgpz
        rw [HWk.out, HAk.out]
        try simp only [Act.put]
        try simp only [List.setIfInBounds_toArray, List.set_cons_zero, List.set_cons_succ]
        refine reg_all1 26 ?_ (by kernel_rfl) ?_ (fun K hK => ?_)
        rotate_left 1
        · simp only [List.getElem?_toArray, List.getElem?_cons_succ, List.getElem?_cons_zero]; exact rfl
        · go_simp
          refine (Whole_any _ (1 + 2) _ _ (by omega) f13_0.num).mono ?_
          rintro e w29 ⟨m14, o14, n14, c14, p14, k14, d14, rfl, f14_0, hb29⟩
          have hB_1 := hB_0.trans (hb29.mono hB_0.size)
          have qa_1 := qa_0.below hb29
          have qb_1 := qb_0.below hb29
          have qv_1 := qv_0.below hb29
          have hWk_1 := hWk_0.trans (hb29.mono hWk_0.size)
          have f1x_1 := f1x_0.below hb29
          have f1y_1 := f1y_0.below hb29
          have f2x_1 := f2x_0.below hb29
          have f2y_1 := f2y_0.below hb29
          have f3x_1 := f3x_0.below hb29
          have f3y_1 := f3y_0.below hb29
          have f4_1 := f4_0.below hb29
          have f5_1 := f5_0.below hb29
          have f6_1 := f6_0.below hb29
          have f7x_1 := f7x_0.below hb29
          have f7y_1 := f7y_0.below hb29
          have f8x_1 := f8x_0.below hb29
          have f8y_1 := f8y_0.below hb29
          have f9_1 := f9_0.below hb29
          have f10_1 := f10_0.below hb29
          have f11_1 := f11_0.below hb29
          have f12_1 := f12_0.below hb29
          have f13_1 := f13_0.below hb29
          have pz_1 := pz_0.below hb29
          clear hb29 hB_0 qa_0 qb_0 qv_0 hWk_0 f1x_0 f1y_0 f2x_0 f2y_0 f3x_0 f3y_0 f4_0 f5_0 f6_0 f7x_0 f7y_0 f8x_0 f8y_0 f9_0 f10_0 f11_0 f12_0 f13_0 pz_0
          go_wp2_with fail
          refine hK.out _ _ ⟨qa_1.c0, qa_1.c1, qb_1.c0, qb_1.c1, qv_1.c0, qv_1.c1⟩ (fun hHeld => ?_)
          clear hK K
          try simp only [Act.put]
          try simp only [List.setIfInBounds_toArray, List.set_cons_zero, List.set_cons_succ]
          rw [← HWk.out]
          exact stk_15t _ m1x o1x n1x c1x p1x k1x d1x m1y o1y n1y c1y p1y k1y d1y m2x o2x n2x c2x p2x k2x d2x m2y o2y n2y c2y p2y k2y d2y m3x o3x n3x c3x p3x k3x d3x m3y o3y n3y c3y p3y k3y d3y m4 o4 n4 c4 p4 k4 d4 m5 o5 n5 c5 m6 o6 n6 c6 p6 k6 d6 m7x o7x n7x c7x p7x k7x d7x m7y o7y n7y c7y p7y k7y d7y m8x o8x n8x c8x p8x k8x d8x m8y o8y n8y c8y p8y k8y d8y m9 o9 n9 c9 p9 k9 d9 m10 o10 n10 c10 p10 k10 d10 m11 o11 n11 c11 m12 o12 n12 c12 m13 o13 n13 c13 m14 o14 n14 c14 p14 k14 d14 gpz hB_1 qa_1 qb_1 qv_1 hWk_1 f1x_1 f1y_1 f2x_1 f2y_1 f3x_1 f3y_1 f4_1 f5_1 f6_1 f7x_1 f7y_1 f8x_1 f8y_1 f9_1 f10_1 f11_1 f12_1 f13_1 f14_0 pz_1 (by omega)
      try simp only [HAk.out, Act.put, List.setIfInBounds_toArray, List.set_cons_zero, List.set_cons_succ] at stk_14t
      have stk_13t : ∀ (w' : World) (m1x : Bool) (o1x : Option Addr) (n1x : Nat) (c1x : Nat) (p1x : Option Addr) (k1x : Nat) (d1x : Nat) (m1y : Bool) (o1y : Option Addr) (n1y : Nat) (c1y : Nat) (p1y : Option Addr) (k1y : Nat) (d1y : Nat) (m2x : Bool) (o2x : Option Addr) (n2x : Nat) (c2x : Nat) (p2x : Option Addr) (k2x : Nat) (d2x : Nat) (m2y : Bool) (o2y : Option Addr) (n2y : Nat) (c2y : Nat) (p2y : Option Addr) (k2y : Nat) (d2y : Nat) (m3x : Bool) (o3x : Option Addr) (n3x : Nat) (c3x : Nat) (p3x : Option Addr) (k3x : Nat) (d3x : Nat) (m3y : Bool) (o3y : Option Addr) (n3y : Nat) (c3y : Nat) (p3y : Option Addr) (k3y : Nat) (d3y : Nat) (m4 : Bool) (o4 : Option Addr) (n4 : Nat) (c4 : Nat) (p4 : Option Addr) (k4 : Nat) (d4 : Nat) (m5 : Bool) (o5 : Option Addr) (n5 : Nat) (c5 : Nat) (m6 : Bool) (o6 : Option Addr) (n6 : Nat) (c6 : Nat) (p6 : Option Addr) (k6 : Nat) (d6 : Nat) (m7x : Bool) (o7x : Option Addr) (n7x : Nat) (c7x : Nat) (p7x : Option Addr) (k7x : Nat) (d7x : Nat) (m7y : Bool) (o7y : Option Addr) (n7y : Nat) (c7y : Nat) (p7y : Option Addr) (k7y : Nat) (d7y : Nat) (m8x : Bool) (o8x : Option Addr) (n8x : Nat) (c8x : Nat) (p8x : Option Addr) (k8x : Nat) (d8x : Nat) (m8y : Bool) (o8y : Option Addr) (n8y : Nat) (c8y : Nat) (p8y : Option Addr) (k8y : Nat) (d8y : Nat) (m9 : Bool) (o9 : Option Addr) (n9 : Nat) (c9 : Nat) (p9 : Option Addr) (k9 : Nat) (d9 : Nat) (m10 : Bool) (o10 : Option Addr) (n10 : Nat) (c10 : Nat) (p10 : Option Addr) (k10 : Nat) (d10 : Nat) (m11 : Bool) (o11 : Option Addr) (n11 : Nat) (c11 : Nat) (m12 : Bool) (o12 : Option Addr) (n12 : Nat) (c12 : Nat) (gpz : Nat), Below w.heap.size w w' → Box w' (gqa) [.int .i64 a0, .int .i64 a1] → Box w' (gqb) [.int .i64 b0, .int .i64 b1] → Box w' (gqv) [.int .i64 v0, .int .i64 v1] → Below w24.heap.size w24 w' → RF w' (.agg #[.bool m1x, .slice o1x n1x c1x, .slice p1x k1x d1x]) (1) ((a0 : Rat)) → RF w' (.agg #[.bool m1y, .slice o1y n1y c1y, .slice p1y k1y d1y]) (1) ((a1 : Rat)) → RF w' (.agg #[.bool m2x, .slice o2x n2x c2x, .slice p2x k2x d2x]) (1) ((b0 : Rat)) → RF w' (.agg #[.bool m2y, .slice o2y n2y c2y, .slice p2y k2y d2y]) (1) ((b1 : Rat)) → RF w' (.agg #[.bool m3x, .slice o3x n3x c3x, .slice p3x k3x d3x]) (1) ((v0 : Rat)) → RF w' (.agg #[.bool m3y, .slice o3y n3y c3y, .slice p3y k3y d3y]) (1) ((v1 : Rat)) → RF w' (.agg #[.bool m4, .slice o4 n4 c4, .slice p4 k4 d4]) (1 + 3 * (((1 + 1 + 2) + (1 + 1 + 2) + 2) + 2)) (areaQ [((a0 : Rat), (a1 : Rat)), ((b0 : Rat), (b1 : Rat)), ((v0 : Rat), (v1 : Rat))]) → RNum w' (.agg #[.bool m5, .slice o5 n5 c5]) (2) (crs a0 a1 b0 b1 v0 v1) → RF w' (.agg #[.bool m6, .slice o6 n6 c6, .slice p6 k6 d6]) (max 2 1) (((crs a0 a1 b0 b1 v0 v1 : Int) : Rat)) → RF w' (.agg #[.bool m7x, .slice o7x n7x c7x, .slice p7x k7x d7x]) (1) ((a0 : Rat)) → RF w' (.agg #[.bool m7y, .slice o7y n7y c7y, .slice p7y k7y d7y]) (1) ((a1 : Rat)) → RF w' (.agg #[.bool m8x, .slice o8x n8x c8x, .slice p8x k8x d8x]) (1) ((b0 : Rat)) → RF w' (.agg #[.bool m8y, .slice o8y n8y c8y, .slice p8y k8y d8y]) (1) ((b1 : Rat)) → RF w' (.agg #[.bool m9, .slice o9 n9 c9, .slice p9 k9 d9]) (((1 + 1 + 2) + (1 + 1 + 2) + 2) + ((1 + 1 + 2) + (1 + 1 + 2) + 2) + 2) (distQ a0 a1 b0 b1) → RF w' (.agg #[.bool m10, .slice o10 n10 c10, .slice p10 k10 d10]) (1 + (((1 + 1 + 2) + (1 + 1 + 2) + 2) + ((1 + 1 + 2) + (1 + 1 + 2) + 2) + 2) + 2) (((2 : Int) : Rat) * distQ a0 a1 b0 b1) → RNum w' (.agg #[.bool m11, .slice o11 n11 c11]) (1) (2) → RNum w' (.agg #[.bool m12, .slice o12 n12 c12]) (2) (sqd a0 a1 b0 b1) → Box w' gpz [.bool m1x, .slice o1x n1x c1x, .slice p1x k1x d1x, .bool m1y, .slice o1y n1y c1y, .slice p1y k1y d1y, .bool m2x, .slice o2x n2x c2x, .slice p2x k2x d2x, .bool m2y, .slice o2y n2y c2y, .slice p2y k2y d2y, .bool m3x, .slice o3x n3x c3x, .slice p3x k3x d3x, .bool m3y, .slice o3y n3y c3y, .slice p3y k3y d3y] → w24.heap.size ≤ gpz → WWk 5 #[true, true, true, true, true, true, true, true, true, true, true, true, true, true, true, true, true, true, true, true, true, true, true, true, true, false, false, false, false, false] (((((((((((((((((((ak.put (some 71) (.agg #[.bool m1x, .slice o1x n1x c1x, .slice p1x k1x d1x, .bool m1y, .slice o1y n1y c1y, .slice p1y k1y d1y])).put (some 73) (.agg #[.bool m2x, .slice o2x n2x c2x, .slice p2x k2x d2x, .bool m2y, .slice o2y n2y c2y, .slice p2y k2y d2y])).put (some 75) (.agg #[.bool m3x, .slice o3x n3x c3x, .slice p3x k3x d3x, .bool m3y, .slice o3y n3y c3y, .slice p3y k3y d3y])).put (some 76) (.slice (some ⟨gpz, 0, none⟩) 3 3)).put (some 77) (.agg #[.bool m4, .slice o4 n4 c4, .slice p4 k4 d4])).put (some 81) (.agg #[.bool m5, .slice o5 n5 c5])).put (some 82) (.agg #[.bool m6, .slice o6 n6 c6, .slice p6 k6 d6])).put (some 83) (.bool true)).put (some 84) (.bool true)).put (some 85) (.agg #[.int .i64 a0, .int .i64 a1])).put (some 86) (.agg #[.bool m7x, .slice o7x n7x c7x, .slice p7x k7x d7x, .bool m7y, .slice o7y n7y c7y, .slice p7y k7y d7y])).put (some 87) (.agg #[.int .i64 b0, .int .i64 b1])).put (some 88) (.agg #[.bool m8x, .slice o8x n8x c8x, .slice p8x k8x d8x, .bool m8y, .slice o8y n8y c8y, .slice p8y k8y d8y])).put (some 89) (.agg #[.bool m9, .slice o9 n9 c9, .slice p9 k9 d9])).put (some 90) (.agg #[.bool m10, .slice o10 n10 c10, .slice p10 k10 d10])).put (some 91) (.agg #[.bool m11, .slice o11 n11 c11])).put (some 92) (.agg #[.int .i64 a0, .int .i64 a1])).put (some 93) (.agg #[.int .i64 b0, .int .i64 b1])).put (some 94) (.agg #[.bool m12, .slice o12 n12 c12])) w' := by
        intro w30 m1x o1x n1x c1x p1x k1x d1x m1y o1y n1y c1y p1y k1y d1y m2x o2x n2x c2x p2x k2x d2x m2y o2y n2y c2y p2y k2y d2y m3x o3x n3x c3x p3x k3x d3x m3y o3y n3y c3y p3y k3y d3y m4 o4 n4 c4 p4 k4 d4 m5 o5 n5 c5 m6 o6 n6 c6 p6 k6 d6 m7x o7x n7x c7x p7x k7x d7x m7y o7y n7y c7y p7y k7y d7y m8x o8x n8x c8x p8x k8x d8x m8y o8y n8y c8y p8y k8y d8y m9 o9 n9 c9 p9 k9 d9 m10 o10 n10 c10 p10 k10 d10 m11 o11 n11 c11 m12 o12 n12 c12 gpz hB_0 qa_0 qb_0 qv_0 hWk_0 f1x_0 f1y_0 f2x_0 f2y_0 f3x_0 f3y_0 f4_0 f5_0 f6_0 f7x_0 f7y_0 f8x_0 f8y_0 f9_0 f10_0 f11_0 f12_0 pz_0 hgpz
        rw [HWk.out, HAk.out]
        try simp only [Act.put]
        try simp only [List.setIfInBounds_toArray, List.set_cons_zero, List.set_cons_succ]
        refine reg_all1 25 ?_ (by kernel_rfl) ?_ (fun K hK => ?_)
        rotate_left 1
        · simp only [List.getElem?_toArray, List.getElem?_cons_succ, List.getElem?_cons_zero]; exact rfl
        · go_simp
          refine (nMul_any _ _ 1 2 _ _ _ (by omega) (by omega) f11_0.num f12_0.num).mono ?_
          rintro e w31 ⟨m13, o13, n13, c13, rfl, f13_0, hb31⟩
          have hB_1 := hB_0.trans (hb31.mono hB_0.size)
          have qa_1 := qa_0.below hb31
          have qb_1 := qb_0.below hb31
          have qv_1 := qv_0.below hb31
          have hWk_1 := hWk_0.trans (hb31.mono hWk_0.size)
          have f1x_1 := f1x_0.below hb31
          have f1y_1 := f1y_0.below hb31
          have f2x_1 := f2x_0.below hb31
          have f2y_1 := f2y_0.below hb31
          have f3x_1 := f3x_0.below hb31
          have f3y_1 := f3y_0.below hb31
          have f4_1 := f4_0.below hb31
          have f5_1 := f5_0.below hb31
          have f6_1 := f6_0.below hb31
          have f7x_1 := f7x_0.below hb31
          have f7y_1 := f7y_0.below hb31
          have f8x_1 := f8x_0.below hb31
          have f8y_1 := f8y_0.below hb31
          have f9_1 := f9_0.below hb31
          have f10_1 := f10_0.below hb31
          have f11_1 := f11_0.below hb31
          have f12_1 := f12_0.below hb31
          have pz_1 := pz_0.below hb31
          clear hb31 hB_0 qa_0 qb_0 qv_0 hWk_0 f1x_0 f1y_0 f2x_0 f2y_0 f3x_0 f3y_0 f4_0 f5_0 f6_0 f7x_0 f7y_0 f8x_0 f8y_0 f9_0 f10_0 f11_0 f12_0 pz_0
          go_wp2_with fail
          refine hK.out _ _ ⟨qa_1.c0, qa_1.c1, qb_1.c0, qb_1.c1, qv_1.c0, qv_1.c1⟩ (fun hHeld => ?_)
          clear hK K
          try simp only [Act.put]
          try simp only [List.setIfInBounds_toArray, List.set_cons_zero, List.set_cons_succ]
          rw [← HWk.out]
          exact stk_14t _ m1x o1x n1x c1x p1x k1x d1x m1y o1y n1y c1y p1y k1y d1y m2x o2x n2x c2x p2x k2x d2x m2y o2y n2y c2y p2y k2y d2y m3x o3x n3x c3x p3x k3x d3x m3y o3y n3y c3y p3y k3y d3y m4 o4 n4 c4 p4 k4 d4 m5 o5 n5 c5 m6 o6 n6 c6 p6 k6 d6 m7x o7x n7x c7x p7x k7x d7x m7y o7y n7y c7y p7y k7y d7y m8x o8x n8x c8x p8x k8x d8x m8y o8y n8y c8y p8y k8y d8y m9 o9 n9 c9 p9 k9 d9 m10 o10 n10 c10 p10 k10 d10 m11 o11 n11 c11 m12 o12 n12 c12 m13 o13 n13 c13 gpz hB_1 qa_1 qb_1 qv_1 hWk_1 f1x_1 f1y_1 f2x_1 f2y_1 f3x_1 f3y_1 f4_1 f5_1 f6_1 f7x_1 f7y_1 f8x_1 f8y_1 f9_1 f10_1 f11_1 f12_1 f13_0 pz_1 (by omega)
      try simp only [HAk.out, Act.put, List.setIfInBounds_toArray, List.set_cons_zero, List.set_cons_succ] at stk_13t
      have stk_12t : ∀ (w' : World) (m1x : Bool) (o1x : Option Addr) (n1x : Nat) (c1x : Nat) (p1x : Option Addr) (k1x : Nat) (d1x : Nat) (m1y : Bool) (o1y : Option Addr) (n1y : Nat) (c1y : Nat) (p1y : Option Addr) (k1y : Nat) (d1y : Nat) (m2x : Bool) (o2x : Option Addr) (n2x : Nat) (c2x : Nat) (p2x : Option Addr) (k2x : Nat) (d2x : Nat) (m2y : Bool) (o2y : Option Addr) (n2y : Nat) (c2y : Nat) (p2y : Option Addr) (k2y : Nat) (d2y : Nat) (m3x : Bool) (o3x : Option Addr) (n3x : Nat) (c3x : Nat) (p3x : Option Addr) (k3x : Nat) (d3x : Nat) (m3y : Bool) (o3y : Option Addr) (n3y : Nat) (c3y : Nat) (p3y : Option Addr) (k3y : Nat) (d3y : Nat) (m4 : Bool) (o4 : Option Addr) (n4 : Nat) (c4 : Nat) (p4 : Option Addr) (k4 : Nat) (d4 : Nat) (m5 : Bool) (o5 : Option Addr) (n5 : Nat) (c5 : Nat) (m6 : Bool) (o6 : Option Addr) (n6 : Nat) (c6 : Nat) (p6 : Option Addr) (k6 : Nat) (d6 : Nat) (m7x : Bool) (o7x : Option Addr) (n7x : Nat) (c7x : Nat) (p7x : Option Addr) (k7x : Nat) (d7x : Nat) (m7y : Bool) (o7y : Option Addr) (n7y : Nat) (c7y : Nat) (p7y : Option Addr) (k7y : Nat) (d7y : Nat) (m8x : Bool) (o8x : Option Addr) (n8x : Nat) (c8x : Nat) (p8x : Option Addr) (k8x : Nat) (d8x : Nat) (m8y : Bool) (o8y : Option Addr) (n8y : Nat) (c8y : Nat) (p8y : Option Addr) (k8y : Nat) (d8y : Nat) (m9 : Bool) (o9 : Option Addr) (n9 : Nat) (c9 : Nat) (p9 : Option Addr) (k9 : Nat) (d9 : Nat) (m10 : Bool) (o10 : Option Addr) (n10 : Nat) (c10 : Nat) (p10 : Option Addr) (k10 : Nat) (d10 : Nat) (m11 : Bool) (o11 : Option Addr) (n11 : Nat) (c11 : Nat) (gpz : Nat), Below w.heap.size w w' → Box w' (gqa) [.int .i64 a0, .int .i64 a1] → Box w' (gqb) [.int .i64 b0, .int .i64 b1] → Box w' (gqv) [.int .i64 v0, .int .i64 v1] → Below w24.heap.size w24 w' → RF w' (.agg #[.bool m1x, .slice o1x n1x c1x, .slice p1x k1x d1x]) (1) ((a0 : Rat)) → RF w' (.agg #[.bool m1y, .slice o1y n1y c1y, .slice p1y k1y d1y]) (1) ((a1 : Rat)) → RF w' (.agg #[.bool m2x, .slice o2x n2x c2x, .slice p2x k2x d2x]) (1) ((b0 : Rat)) → RF w' (.agg #[.bool m2y, .slice o2y n2y c2y, .slice p2y k2y d2y]) (1) ((b1 : Rat)) → RF w' (.agg #[.bool m3x, .slice o3x n3x c3x, .slice p3x k3x d3x]) (1) ((v0 : Rat)) → RF w' (.agg #[.bool m3y, .slice o3y n3y c3y, .slice p3y k3y d3y]) (1) ((v1 : Rat)) → RF w' (.agg #[.bool m4, .slice o4 n4 c4, .slice p4 k4 d4]) (1 + 3 * (((1 + 1 + 2) + (1 + 1 + 2) + 2) + 2)) (areaQ [((a0 : Rat), (a1 : Rat)), ((b0 : Rat), (b1 : Rat)), ((v0 : Rat), (v1 : Rat))]) → RNum w' (.agg #[.bool m5, .slice o5 n5 c5]) (2) (crs a0 a1 b0 b1 v0 v1) → RF w' (.agg #[.bool m6, .slice o6 n6 c6, .slice p6 k6 d6]) (max 2 1) (((crs a0 a1 b0 b1 v0 v1 : Int) : Rat)) → RF w' (.agg #[.bool m7x, .slice o7x n7x c7x, .slice p7x k7x d7x]) (1) ((a0 : Rat)) → RF w' (.agg #[.bool m7y, .slice o7y n7y c7y, .slice p7y k7y d7y]) (1) ((a1 : Rat)) → RF w' (.agg #[.bool m8x, .slice o8x n8x c8x, .slice p8x k8x d8x]) (1) ((b0 : Rat)) → RF w' (.agg #[.bool m8y, .slice o8y n8y c8y, .slice p8y k8y d8y]) (1) ((b1 : Rat)) → RF w' (.agg #[.bool m9, .slice o9 n9 c9, .slice p9 k9 d9]) (((1 + 1 + 2) + (1 + 1 + 2) + 2) + ((1 + 1 + 2) + (1 + 1 + 2) + 2) + 2) (distQ a0 a1 b0 b1) → RF w' (.agg #[.bool m10, .slice o10 n10 c10, .slice p10 k10 d10]) (1 + (((1 + 1 + 2) + (1 + 1 + 2) + 2) + ((1 + 1 + 2) + (1 + 1 + 2) + 2) + 2) + 2) (((2 : Int) : Rat) * distQ a0 a1 b0 b1) → RNum w' (.agg #[.bool m11, .slice o11 n11 c11]) (1) (2) → Box w' gpz [.bool m1x, .slice o1x n1x c1x, .slice p1x k1x d1x, .bool m1y, .slice o1y n1y c1y, .slice p1y k1y d1y, .bool m2x, .slice o2x n2x c2x, .slice p2x k2x d2x, .bool m2y, .slice o2y n2y c2y, .slice p2y k2y d2y, .bool m3x, .slice o3x n3x c3x, .slice p3x k3x d3x, .bool m3y, .slice o3y n3y c3y, .slice p3y k3y d3y] → w24.heap.size ≤ gpz → WWk 6 #[true, true, true, true, true, true, true, true, true, true, true, true, true, true, true, true, true, true, true, true, true, true, true, true, false, false, false, false, false, false] ((((((((((((((((((ak.put (some 71) (.agg #[.bool m1x, .slice o1x n1x c1x, .slice p1x k1x d1x, .bool m1y, .slice o1y n1y c1y, .slice p1y k1y d1y])).put (some 73) (.agg #[.bool m2x, .slice o2x n2x c2x, .slice p2x k2x d2x, .bool m2y, .slice o2y n2y c2y, .slice p2y k2y d2y])).put (some 75) (.agg #[.bool m3x, .slice o3x n3x c3x, .slice p3x k3x d3x, .bool m3y, .slice o3y n3y c3y, .slice p3y k3y d3y])).put (some 76) (.slice (some ⟨gpz, 0, none⟩) 3 3)).put (some 77) (.agg #[.bool m4, .slice o4 n4 c4, .slice p4 k4 d4])).put (some 81) (.agg #[.bool m5, .slice o5 n5 c5])).put (some 82) (.agg #[.bool m6, .slice o6 n6 c6, .slice p6 k6 d6])).put (some 83) (.bool true)).put (some 84) (.bool true)).put (some 85) (.agg #[.int .i64 a0, .int .i64 a1])).put (some 86) (.agg #[.bool m7x, .slice o7x n7x c7x, .slice p7x k7x d7x, .bool m7y, .slice o7y n7y c7y, .slice p7y k7y d7y])).put (some 87) (.agg #[.int .i64 b0, .int .i64 b1])).put (some 88) (.agg #[.bool m8x, .slice o8x n8x c8x, .slice p8x k8x d8x, .bool m8y, .slice o8y n8y c8y, .slice p8y k8y d8y])).put (some 89) (.agg #[.bool m9, .slice o9 n9 c9, .slice p9 k9 d9])).put (some 90) (.agg #[.bool m10, .slice o10 n10 c10, .slice p10 k10 d10])).put (some 91) (.agg #[.bool m11, .slice o11 n11 c11])).put (some 92) (.agg #[.int .i64 a0, .int .i64 a1])).put (some 93) (.agg #[.int .i64 b0, .int .i64 b1])) w' := by
        intro w32 m1x o1x n1x c1x p1x k1x d1x m1y o1y n1y c1y p1y k1y d1y m2x o2x n2x c2x p2x k2x d2x m2y o2y n2y c2y p2y k2y d2y m3x o3x n3x c3x p3x k3x d3x m3y o3y n3y c3y p3y k3y d3y m4 o4 n4 c4 p4 k4 d4 m5 o5 n5 c5 m6 o6 n6 c6 p6 k6 d6 m7x o7x n7x c7x p7x k7x d7x m7y o7y n7y c7y p7y k7y d7y m8x o8x n8x c8x p8x k8x d8x m8y o8y n8y c8y p8y k8y d8y m9 o9 n9 c9 p9 k9 d9 m10 o10 n10 c10 p10 k10 d10 m11 o11 n11 c11 gpz hB_0 qa_0 qb_0 qv_0 hWk_0 f1x_0 f1y_0 f2x_0 f2y_0 f3x_0 f3y_0 f4_0 f5_0 f6_0 f7x_0 f7y_0 f8x_0 f8y_0 f9_0 f10_0 f11_0 pz_0 hgpz
        rw [HWk.out, HAk.out]
        try simp only [Act.put]
        try simp only [List.setIfInBounds_toArray, List.set_cons_zero, List.set_cons_succ]
        refine reg_all1 24 ?_ (by kernel_rfl) ?_ (fun K hK => ?_)
        rotate_left 1
        · simp only [List.getElem?_toArray, List.getElem?_cons_succ, List.getElem?_cons_zero]; exact rfl
        · go_simp
          refine (Dist2_any a0 a1 b0 b1 HA0.out HA1.out HB0.out HB1.out _).mono ?_
          rintro e w33 ⟨m12, o12, n12, c12, rfl, f12_0, hb33⟩
          have hB_1 := hB_0.trans (hb33.mono hB_0.size)
          have qa_1 := qa_0.below hb33
          have qb_1 := qb_0.below hb33
          have qv_1 := qv_0.below hb33
          have hWk_1 := hWk_0.trans (hb33.mono hWk_0.size)
          have f1x_1 := f1x_0.below hb33
          have f1y_1 := f1y_0.below hb33
          have f2x_1 := f2x_0.below hb33
          have f2y_1 := f2y_0.below hb33
          have f3x_1 := f3x_0.below hb33
          have f3y_1 := f3y_0.below hb33
          have f4_1 := f4_0.below hb33
          have f5_1 := f5_0.below hb33
          have f6_1 := f6_0.below hb33
          have f7x_1 := f7x_0.below hb33
          have f7y_1 := f7y_0.below hb33
          have f8x_1 := f8x_0.below hb33
          have f8y_1 := f8y_0.below hb33
          have f9_1 := f9_0.below hb33
          have f10_1 := f10_0.below hb33
          have f11_1 := f11_0.below hb33
          have pz_1 := pz_0.below hb33
          clear hb33 hB_0 qa_0 qb_0 qv_0 hWk_0 f1x_0 f1y_0 f2x_0 f2y_0 f3x_0 f3y_0 f4_0 f5_0 f6_0 f7x_0 f7y_0 f8x_0 f8y_0 f9_0 f10_0 f11_0 pz_0
          go_wp2_with fail
          refine hK.out _ _ ⟨qa_1.c0, qa_1.c1, qb_1.c0, qb_1.c1, qv_1.c0, qv_1.c1⟩ (fun hHeld => ?_)
          clear hK K
          try simp only [Act.put]
          try simp only [List.setIfInBounds_toArray, List.set_cons_zero, List.set_cons_succ]
          rw [← HWk.out]
          exact stk_13t _ m1x o1x n1x c1x p1x k1x d1x m1y o1y n1y c1y p1y k1y d1y m2x o2x n2x c2x p2x k2x d2x m2y o2y n2y c2y p2y k2y d2y m3x o3x n3x c3x p3x k3x d3x m3y o3y n3y c3y p3y k3y d3y m4 o4 n4 c4 p4 k4 d4 m5 o5 n5 c5 m6 o6 n6 c6 p6 k6 d6 m7x o7x n7x c7x p7x k7x d7x m7y o7y n7y c7y p7y k7y d7y m8x o8x n8x c8x p8x k8x d8x m8y o8y n8y c8y p8y k8y d8y m9 o9 n9 c9 p9 k9 d9 m10 o10 n10 c10 p10 k10 d10 m11 o11 n11 c11 m12 o12 n12 c12 gpz hB_1 qa_1 qb_1 qv_1 hWk_1 f1x_1 f1y_1 f2x_1 f2y_1 f3x_1 f3y_1 f4_1 f5_1 f6_1 f7x_1 f7y_1 f8x_1 f8y_1 f9_1 f10_1 f11_1 f12_0 pz_1 (by omega)
      try simp only [HAk.out, Act.put, List.setIfInBounds_toArray, List.set_cons_zero, List.set_cons_succ] at stk_12t
      have stk_11t : ∀ (w' : World) (m1x : Bool) (o1x : Option Addr) (n1x : Nat) (c1x : Nat) (p1x : Option Addr) (k1x : Nat) (d1x : Nat) (m1y : Bool) (o1y : Option Addr) (n1y : Nat) (c1y : Nat) (p1y : Option Addr) (k1y : Nat) (d1y : Nat) (m2x : Bool) (o2x : Option Addr) (n2x : Nat) (c2x : Nat) (p2x : Option Addr) (k2x : Nat) (d2x : Nat) (m2y : Bool) (o2y : Option Addr) (n2y : Nat) (c2y : Nat) (p2y : Option Addr) (k2y : Nat) (d2y : Nat) (m3x : Bool) (o3x : Option Addr) (n3x : Nat) (c3x : Nat) (p3x : Option Addr) (k3x : Nat) (d3x : Nat) (m3y : Bool) (o3y : Option Addr) (n3y : Nat) (c3y : Nat) (p3y : Option Addr) (k3y : Nat) (d3y : Nat) (m4 : Bool) (o4 : Option Addr) (n4 : Nat) (c4 : Nat) (p4 : Option Addr) (k4 : Nat) (d4 : Nat) (m5 : Bool) (o5 : Option Addr) (n5 : Nat) (c5 : Nat) (m6 : Bool) (o6 : Option Addr) (n6 : Nat) (c6 : Nat) (p6 : Option Addr) (k6 : Nat) (d6 : Nat) (m7x : Bool) (o7x : Option Addr) (n7x : Nat) (c7x : Nat) (p7x : Option Addr) (k7x : Nat) (d7x : Nat) (m7y : Bool) (o7y : Option Addr) (n7y : Nat) (c7y : Nat) (p7y : Option Addr) (k7y : Nat) (d7y : Nat) (m8x : Bool) (o8x : Option Addr) (n8x : Nat) (c8x : Nat) (p8x : Option Addr) (k8x : Nat) (d8x : Nat) (m8y : Bool) (o8y : Option Addr) (n8y : Nat) (c8y : Nat) (p8y : Option Addr) (k8y : Nat) (d8y : Nat) (m9 : Bool) (o9 : Option Addr) (n9 : Nat) (c9 : Nat) (p9 : Option Addr) (k9 : Nat) (d9 : Nat) (m10 : Bool) (o10 : Option Addr) (n10 : Nat) (c10 : Nat) (p10 : Option Addr) (k10 : Nat) (d10 : Nat) (gpz : Nat), Below w.heap.size w w' → Box w' (gqa) [.int .i64 a0, .int .i64 a1] → Box w' (gqb) [.int .i64 b0, .int .i64 b1] → Box w' (gqv) [.int .i64 v0, .int .i64 v1] → Below w24.heap.size w24 w' → RF w' (.agg #[.bool m1x, .slice o1x n1x c1x, .slice p1x k1x d1x]) (1) ((a0 : Rat)) → RF w' (.agg #[.bool m1y, .slice o1y n1y c1y, .slice p1y k1y d1y]) (1) ((a1 : Rat)) → RF w' (.agg #[.bool m2x, .slice o2x n2x c2x, .slice p2x k2x d2x]) (1) ((b0 : Rat)) → RF w' (.agg #[.bool m2y, .slice o2y n2y c2y, .slice p2y k2y d2y]) (1) ((b1 : Rat)) → RF w' (.agg #[.bool m3x, .slice o3x n3x c3x, .slice p3x k3x d3x]) (1) ((v0 : Rat)) → RF w' (.agg #[.bool m3y, .slice o3y n3y c3y, .slice p3y k3y d3y]) (1) ((v1 : Rat)) → RF w' (.agg #[.bool m4, .slice o4 n4 c4, .slice p4 k4 d4]) (1 + 3 * (((1 + 1 + 2) + (1 + 1 + 2) + 2) + 2)) (areaQ [((a0 : Rat), (a1 : Rat)), ((b0 : Rat), (b1 : Rat)), ((v0 : Rat), (v1 : Rat))]) → RNum w' (.agg #[.bool m5, .slice o5 n5 c5]) (2) (crs a0 a1 b0 b1 v0 v1) → RF w' (.agg #[.bool m6, .slice o6 n6 c6, .slice p6 k6 d6]) (max 2 1) (((crs a0 a1 b0 b1 v0 v1 : Int) : Rat)) → RF w' (.agg #[.bool m7x, .slice o7x n7x c7x, .slice p7x k7x d7x]) (1) ((a0 : Rat)) → RF w' (.agg #[.bool m7y, .slice o7y n7y c7y, .slice p7y k7y d7y]) (1) ((a1 : Rat)) → RF w' (.agg #[.bool m8x, .slice o8x n8x c8x, .slice p8x k8x d8x]) (1) ((b0 : Rat)) → RF w' (.agg #[.bool m8y, .slice o8y n8y c8y, .slice p8y k8y d8y]) (1) ((b1 : Rat)) → RF w' (.agg #[.bool m9, .slice o9 n9 c9, .slice p9 k9 d9]) (((1 + 1 + 2) + (1 + 1 + 2) + 2) + ((1 + 1 + 2) + (1 + 1 + 2) + 2) + 2) (distQ a0 a1 b0 b1) → RF w' (.agg #[.bool m10, .slice o10 n10 c10, .slice p10 k10 d10]) (1 + (((1 + 1 + 2) + (1 + 1 + 2) + 2) + ((1 + 1 + 2) + (1 + 1 + 2) + 2) + 2) + 2) (((2 : Int) : Rat) * distQ a0 a1 b0 b1) → Box w' gpz [.bool m1x, .slice o1x n1x c1x, .slice p1x k1x d1x, .bool m1y, .slice o1y n1y c1y, .slice p1y k1y d1y, .bool m2x, .slice o2x n2x c2x, .slice p2x k2x d2x, .bool m2y, .slice o2y n2y c2y, .slice p2y k2y d2y, .bool m3x, .slice o3x n3x c3x, .slice p3x k3x d3x, .bool m3y, .slice o3y n3y c3y, .slice p3y k3y d3y] → w24.heap.size ≤ gpz → WWk 7 #[true, true, true, true, true, true, true, true, true, true, true, true, true, true, true, true, true, true, true, true, true, false, true, true, false, false, false, false, false, false] (((((((((((((((((ak.put (some 71) (.agg #[.bool m1x, .slice o1x n1x c1x, .slice p1x k1x d1x, .bool m1y, .slice o1y n1y c1y, .slice p1y k1y d1y])).put (some 73) (.agg #[.bool m2x, .slice o2x n2x c2x, .slice p2x k2x d2x, .bool m2y, .slice o2y n2y c2y, .slice p2y k2y d2y])).put (some 75) (.agg #[.bool m3x, .slice o3x n3x c3x, .slice p3x k3x d3x, .bool m3y, .slice o3y n3y c3y, .slice p3y k3y d3y])).put (some 76) (.slice (some ⟨gpz, 0, none⟩) 3 3)).put (some 77) (.agg #[.bool m4, .slice o4 n4 c4, .slice p4 k4 d4])).put (some 81) (.agg #[.bool m5, .slice o5 n5 c5])).put (some 82) (.agg #[.bool m6, .slice o6 n6 c6, .slice p6 k6 d6])).put (some 83) (.bool true)).put (some 84) (.bool true)).put (some 85) (.agg #[.int .i64 a0, .int .i64 a1])).put (some 86) (.agg #[.bool m7x, .slice o7x n7x c7x, .slice p7x k7x d7x, .bool m7y, .slice o7y n7y c7y, .slice p7y k7y d7y])).put (some 87) (.agg #[.int .i64 b0, .int .i64 b1])).put (some 88) (.agg #[.bool m8x, .slice o8x n8x c8x, .slice p8x k8x d8x, .bool m8y, .slice o8y n8y c8y, .slice p8y k8y d8y])).put (some 89) (.agg #[.bool m9, .slice o9 n9 c9, .slice p9 k9 d9])).put (some 90) (.agg #[.bool m10, .slice o10 n10 c10, .slice p10 k10 d10])).put (some 92) (.agg #[.int .i64 a0, .int .i64 a1])).put (some 93) (.agg #[.int .i64 b0, .int .i64 b1])) w' := by
        intro w34 m1x o1x n1x c1x p1x k1x d1x m1y o1y n1y c1y p1y k1y d1y m2x o2x n2x c2x p2x k2x d2x m2y o2y n2y c2y p2y k2y d2y m3x o3x n3x c3x p3x k3x d3x m3y o3y n3y c3y p3y k3y d3y m4 o4 n4 c4 p4 k4 d4 m5 o5 n5 c5 m6 o6 n6 c6 p6 k6 d6 m7x o7x n7x c7x p7x k7x d7x m7y o7y n7y c7y p7y k7y d7y m8x o8x n8x c8x p8x k8x d8x m8y o8y n8y c8y p8y k8y d8y m9 o9 n9 c9 p9 k9 d9 m10 o10 n10 c10 p10 k10 d10 gpz hB_0 qa_0 qb_0 qv_0 hWk_0 f1x_0 f1y_0 f2x_0 f2y_0 f3x_0 f3y_0 f4_0 f5_0 f6_0 f7x_0 f7y_0 f8x_0 f8y_0 f9_0 f10_0 pz_0 hgpz
        rw [HWk.out, HAk.out]
        try simp only [Act.put]
        try simp only [List.setIfInBounds_toArray, List.set_cons_zero, List.set_cons_succ]
        refine reg_all1 21 ?_ (by kernel_rfl) ?_ (fun K hK => ?_)
        rotate_left 1
        · simp only [List.getElem?_toArray, List.getElem?_cons_succ, List.getElem?_cons_zero]; exact rfl
        · go_simp
          refine (nOf_any 2 (by omega) (by omega) _).mono ?_
          rintro e w35 ⟨m11, o11, n11, c11, rfl, f11_0, hb35⟩
          have hB_1 := hB_0.trans (hb35.mono hB_0.size)
          have qa_1 := qa_0.below hb35
          have qb_1 := qb_0.below hb35
          have qv_1 := qv_0.below hb35
          have hWk_1 := hWk_0.trans (hb35.mono hWk_0.size)
          have f1x_1 := f1x_0.below hb35
          have f1y_1 := f1y_0.below hb35
          have f2x_1 := f2x_0.below hb35
          have f2y_1 := f2y_0.below hb35
          have f3x_1 := f3x_0.below hb35
          have f3y_1 := f3y_0.below hb35
          have f4_1 := f4_0.below hb35
          have f5_1 := f5_0.below hb35
          have f6_1 := f6_0.below hb35
          have f7x_1 := f7x_0.below hb35
          have f7y_1 := f7y_0.below hb35
          have f8x_1 := f8x_0.below hb35
          have f8y_1 := f8y_0.below hb35
          have f9_1 := f9_0.below hb35
          have f10_1 := f10_0.below hb35
          have pz_1 := pz_0.below hb35
          clear hb35 hB_0 qa_0 qb_0 qv_0 hWk_0 f1x_0 f1y_0 f2x_0 f2y_0 f3x_0 f3y_0 f4_0 f5_0 f6_0 f7x_0 f7y_0 f8x_0 f8y_0 f9_0 f10_0 pz_0
          go_wp2_with fail
          refine hK.out _ _ ⟨qa_1.c0, qa_1.c1, qb_1.c0, qb_1.c1, qv_1.c0, qv_1.c1⟩ (fun hHeld => ?_)
          clear hK K
          try simp only [Act.put]
          try simp only [List.setIfInBounds_toArray, List.set_cons_zero, List.set_cons_succ]
          rw [← HWk.out]
          exact stk_12t _ m1x o1x n1x c1x p1x k1x d1x m1y o1y n1y c1y p1y k1y d1y m2x o2x n2x c2x p2x k2x d2x m2y o2y n2y c2y p2y k2y d2y m3x o3x n3x c3x p3x k3x d3x m3y o3y n3y c3y p3y k3y d3y m4 o4 n4 c4 p4 k4 d4 m5 o5 n5 c5 m6 o6 n6 c6 p6 k6 d6 m7x o7x n7x c7x p7x k7x d7x m7y o7y n7y c7y p7y k7y d7y m8x o8x n8x c8x p8x k8x d8x m8y o8y n8y c8y p8y k8y d8y m9 o9 n9 c9 p9 k9 d9 m10 o10 n10 c10 p10 k10 d10 m11 o11 n11 c11 gpz hB_1 qa_1 qb_1 qv_1 hWk_1 f1x_1 f1y_1 f2x_1 f2y_1 f3x_1 f3y_1 f4_1 f5_1 f6_1 f7x_1 f7y_1 f8x_1 f8y_1 f9_1 f10_1 f11_0 pz_1 (by omega)
      try simp only [HAk.out, Act.put, List.setIfInBounds_toArray, List.set_cons_zero, List.set_cons_succ] at stk_11t
      have stk_10t : ∀ (w' : World) (m1x : Bool) (o1x : Option Addr) (n1x : Nat) (c1x : Nat) (p1x : Option Addr) (k1x : Nat) (d1x : Nat) (m1y : Bool) (o1y : Option Addr) (n1y : Nat) (c1y : Nat) (p1y : Option Addr) (k1y : Nat) (d1y : Nat) (m2x : Bool) (o2x : Option Addr) (n2x : Nat) (c2x : Nat) (p2x : Option Addr) (k2x : Nat) (d2x : Nat) (m2y : Bool) (o2y : Option Addr) (n2y : Nat) (c2y : Nat) (p2y : Option Addr) (k2y : Nat) (d2y : Nat) (m3x : Bool) (o3x : Option Addr) (n3x : Nat) (c3x : Nat) (p3x : Option Addr) (k3x : Nat) (d3x : Nat) (m3y : Bool) (o3y : Option Addr) (n3y : Nat) (c3y : Nat) (p3y : Option Addr) (k3y : Nat) (d3y : Nat) (m4 : Bool) (o4 : Option Addr) (n4 : Nat) (c4 : Nat) (p4 : Option Addr) (k4 : Nat) (d4 : Nat) (m5 : Bool) (o5 : Option Addr) (n5 : Nat) (c5 : Nat) (m6 : Bool) (o6 : Option Addr) (n6 : Nat) (c6 : Nat) (p6 : Option Addr) (k6 : Nat) (d6 : Nat) (m7x : Bool) (o7x : Option Addr) (n7x : Nat) (c7x : Nat) (p7x : Option Addr) (k7x : Nat) (d7x : Nat) (m7y : Bool) (o7y : Option Addr) (n7y : Nat) (c7y : Nat) (p7y : Option Addr) (k7y : Nat) (d7y : Nat) (m8x : Bool) (o8x : Option Addr) (n8x : Nat) (c8x : Nat) (p8x : Option Addr) (k8x : Nat) (d8x : Nat) (m8y : Bool) (o8y : Option Addr) (n8y : Nat) (c8y : Nat) (p8y : Option Addr) (k8y : Nat) (d8y : Nat) (m9 : Bool) (o9 : Option Addr) (n9 : Nat) (c9 : Nat) (p9 : Option Addr) (k9 : Nat) (d9 : Nat) (gpz : Nat), Below w.heap.size w w' → Box w' (gqa) [.int .i64 a0, .int .i64 a1] → Box w' (gqb) [.int .i64 b0, .int .i64 b1] → Box w' (gqv) [.int .i64 v0, .int .i64 v1] → Below w24.heap.size w24 w' → RF w' (.agg #[.bool m1x, .slice o1x n1x c1x, .slice p1x k1x d1x]) (1) ((a0 : Rat)) → RF w' (.agg #[.bool m1y, .slice o1y n1y c1y, .slice p1y k1y d1y]) (1) ((a1 : Rat)) → RF w' (.agg #[.bool m2x, .slice o2x n2x c2x, .slice p2x k2x d2x]) (1) ((b0 : Rat)) → RF w' (.agg #[.bool m2y, .slice o2y n2y c2y, .slice p2y k2y d2y]) (1) ((b1 : Rat)) → RF w' (.agg #[.bool m3x, .slice o3x n3x c3x, .slice p3x k3x d3x]) (1) ((v0 : Rat)) → RF w' (.agg #[.bool m3y, .slice o3y n3y c3y, .slice p3y k3y d3y]) (1) ((v1 : Rat)) → RF w' (.agg #[.bool m4, .slice o4 n4 c4, .slice p4 k4 d4]) (1 + 3 * (((1 + 1 + 2) + (1 + 1 + 2) + 2) + 2)) (areaQ [((a0 : Rat), (a1 : Rat)), ((b0 : Rat), (b1 : Rat)), ((v0 : Rat), (v1 : Rat))]) → RNum w' (.agg #[.bool m5, .slice o5 n5 c5]) (2) (crs a0 a1 b0 b1 v0 v1) → RF w' (.agg #[.bool m6, .slice o6 n6 c6, .slice p6 k6 d6]) (max 2 1) (((crs a0 a1 b0 b1 v0 v1 : Int) : Rat)) → RF w' (.agg #[.bool m7x, .slice o7x n7x c7x, .slice p7x k7x d7x]) (1) ((a0 : Rat)) → RF w' (.agg #[.bool m7y, .slice o7y n7y c7y, .slice p7y k7y d7y]) (1) ((a1 : Rat)) → RF w' (.agg #[.bool m8x, .slice o8x n8x c8x, .slice p8x k8x d8x]) (1) ((b0 : Rat)) → RF w' (.agg #[.bool m8y, .slice o8y n8y c8y, .slice p8y k8y d8y]) (1) ((b1 : Rat)) → RF w' (.agg #[.bool m9, .slice o9 n9 c9, .slice p9 k9 d9]) (((1 + 1 + 2) + (1 + 1 + 2) + 2) + ((1 + 1 + 2) + (1 + 1 + 2) + 2) + 2) (distQ a0 a1 b0 b1) → Box w' gpz [.bool m1x, .slice o1x n1x c1x, .slice p1x k1x d1x, .bool m1y, .slice o1y n1y c1y, .slice p1y k1y d1y, .bool m2x, .slice o2x n2x c2x, .slice p2x k2x d2x, .bool m2y, .slice o2y n2y c2y, .slice p2y k2y d2y, .bool m3x, .slice o3x n3x c3x, .slice p3x k3x d3x, .bool m3y, .slice o3y n3y c3y, .slice p3y k3y d3y] → w24.heap.size ≤ gpz → WWk 8 #[true, true, true, true, true, true, true, true, true, true, true, true, true, true, true, true, true, true, true, true, false, false, true, true, false, false, false, false, false, false] ((((((((((((((((ak.put (some 71) (.agg #[.bool m1x, .slice o1x n1x c1x, .slice p1x k1x d1x, .bool m1y, .slice o1y n1y c1y, .slice p1y k1y d1y])).put (some 73) (.agg #[.bool m2x, .slice o2x n2x c2x, .slice p2x k2x d2x, .bool m2y, .slice o2y n2y c2y, .slice p2y k2y d2y])).put (some 75) (.agg #[.bool m3x, .slice o3x n3x c3x, .slice p3x k3x d3x, .bool m3y, .slice o3y n3y c3y, .slice p3y k3y d3y])).put (some 76) (.slice (some ⟨gpz, 0, none⟩) 3 3)).put (some 77) (.agg #[.bool m4, .slice o4 n4 c4, .slice p4 k4 d4])).put (some 81) (.agg #[.bool m5, .slice o5 n5 c5])).put (some 82) (.agg #[.bool m6, .slice o6 n6 c6, .slice p6 k6 d6])).put (some 83) (.bool true)).put (some 84) (.bool true)).put (some 85) (.agg #[.int .i64 a0, .int .i64 a1])).put (some 86) (.agg #[.bool m7x, .slice o7x n7x c7x, .slice p7x k7x d7x, .bool m7y, .slice o7y n7y c7y, .slice p7y k7y d7y])).put (some 87) (.agg #[.int .i64 b0, .int .i64 b1])).put (some 88) (.agg #[.bool m8x, .slice o8x n8x c8x, .slice p8x k8x d8x, .bool m8y, .slice o8y n8y c8y, .slice p8y k8y d8y])).put (some 89) (.agg #[.bool m9, .slice o9 n9 c9, .slice p9 k9 d9])).put (some 92) (.agg #[.int .i64 a0, .int .i64 a1])).put (some 93) (.agg #[.int .i64 b0, .int .i64 b1])) w' := by
        intro w36 m1x o1x n1x c1x p1x k1x d1x m1y o1y n1y c1y p1y k1y d1y m2x o2x n2x c2x p2x k2x d2x m2y o2y n2y c2y p2y k2y d2y m3x o3x n3x c3x p3x k3x d3x m3y o3y n3y c3y p3y k3y d3y m4 o4 n4 c4 p4 k4 d4 m5 o5 n5 c5 m6 o6 n6 c6 p6 k6 d6 m7x o7x n7x c7x p7x k7x d7x m7y o7y n7y c7y p7y k7y d7y m8x o8x n8x c8x p8x k8x d8x m8y o8y n8y c8y p8y k8y d8y m9 o9 n9 c9 p9 k9 d9 gpz hB_0 qa_0 qb_0 qv_0 hWk_0 f1x_0 f1y_0 f2x_0 f2y_0 f3x_0 f3y_0 f4_0 f5_0 f6_0 f7x_0 f7y_0 f8x_0 f8y_0 f9_0 pz_0 hgpz
        rw [HWk.out, HAk.out]
        try simp only [Act.put]
        try simp only [List.setIfInBounds_toArray, List.set_cons_zero, List.set_cons_succ]
        refine reg_all1 20 ?_ (by kernel_rfl) ?_ (fun K hK => ?_)
        rotate_left 1
        · simp only [List.getElem?_toArray, List.getElem?_cons_succ, List.getElem?_cons_zero]; exact rfl
        · go_simp
          refine (stimes_any 2 (((1 + 1 + 2) + (1 + 1 + 2) + 2) + ((1 + 1 + 2) + (1 + 1 + 2) + 2) + 2) _ _ (by omega) (by omega) (by omega) f9_0.q).mono ?_
          rintro e w37 ⟨m10, o10, n10, c10, p10, k10, d10, rfl, f10_0, hb37⟩
          have hB_1 := hB_0.trans (hb37.mono hB_0.size)
          have qa_1 := qa_0.below hb37
          have qb_1 := qb_0.below hb37
          have qv_1 := qv_0.below hb37
          have hWk_1 := hWk_0.trans (hb37.mono hWk_0.size)
          have f1x_1 := f1x_0.below hb37
          have f1y_1 := f1y_0.below hb37
          have f2x_1 := f2x_0.below hb37
          have f2y_1 := f2y_0.below hb37
          have f3x_1 := f3x_0.below hb37
          have f3y_1 := f3y_0.below hb37
          have f4_1 := f4_0.below hb37
          have f5_1 := f5_0.below hb37
          have f6_1 := f6_0.below hb37
          have f7x_1 := f7x_0.below hb37
          have f7y_1 := f7y_0.below hb37
          have f8x_1 := f8x_0.below hb37
          have f8y_1 := f8y_0.below hb37
          have f9_1 := f9_0.below hb37
          have pz_1 := pz_0.below hb37
          clear hb37 hB_0 qa_0 qb_0 qv_0 hWk_0 f1x_0 f1y_0 f2x_0 f2y_0 f3x_0 f3y_0 f4_0 f5_0 f6_0 f7x_0 f7y_0 f8x_0 f8y_0 f9_0 pz_0
          go_wp2_with fail
          refine hK.out _ _ ⟨qa_1.c0, qa_1.c1, qb_1.c0, qb_1.c1, qv_1.c0, qv_1.c1⟩ (fun hHeld => ?_)
          clear hK K
          try simp only [Act.put]
          try simp only [List.setIfInBounds_toArray, List.set_cons_zero, List.set_cons_succ]
          rw [← HWk.out]
          exact stk_11t _ m1x o1x n1x c1x p1x k1x d1x m1y o1y n1y c1y p1y k1y d1y m2x o2x n2x c2x p2x k2x d2x m2y o2y n2y c2y p2y k2y d2y m3x o3x n3x c3x p3x k3x d3x m3y o3y n3y c3y p3y k3y d3y m4 o4 n4 c4 p4 k4 d4 m5 o5 n5 c5 m6 o6 n6 c6 p6 k6 d6 m7x o7x n7x c7x p7x k7x d7x m7y o7y n7y c7y p7y k7y d7y m8x o8x n8x c8x p8x k8x d8x m8y o8y n8y c8y p8y k8y d8y m9 o9 n9 c9 p9 k9 d9 m10 o10 n10 c10 p10 k10 d10 gpz hB_1 qa_1 qb_1 qv_1 hWk_1 f1x_1 f1y_1 f2x_1 f2y_1 f3x_1 f3y_1 f4_1 f5_1 f6_1 f7x_1 f7y_1 f8x_1 f8y_1 f9_1 f10_0 pz_1 (by omega)
      try simp only [HAk.out, Act.put, List.setIfInBounds_toArray, List.set_cons_zero, List.set_cons_succ] at stk_10t
      have stk_9t : ∀ (w' : World) (m1x : Bool) (o1x : Option Addr) (n1x : Nat) (c1x : Nat) (p1x : Option Addr) (k1x : Nat) (d1x : Nat) (m1y : Bool) (o1y : Option Addr) (n1y : Nat) (c1y : Nat) (p1y : Option Addr) (k1y : Nat) (d1y : Nat) (m2x : Bool) (o2x : Option Addr) (n2x : Nat) (c2x : Nat) (p2x : Option Addr) (k2x : Nat) (d2x : Nat) (m2y : Bool) (o2y : Option Addr) (n2y : Nat) (c2y : Nat) (p2y : Option Addr) (k2y : Nat) (d2y : Nat) (m3x : Bool) (o3x : Option Addr) (n3x : Nat) (c3x : Nat) (p3x : Option Addr) (k3x : Nat) (d3x : Nat) (m3y : Bool) (o3y : Option Addr) (n3y : Nat) (c3y : Nat) (p3y : Option Addr) (k3y : Nat) (d3y : Nat) (m4 : Bool) (o4 : Option Addr) (n4 : Nat) (c4 : Nat) (p4 : Option Addr) (k4 : Nat) (d4 : Nat) (m5 : Bool) (o5 : Option Addr) (n5 : Nat) (c5 : Nat) (m6 : Bool) (o6 : Option Addr) (n6 : Nat) (c6 : Nat) (p6 : Option Addr) (k6 : Nat) (d6 : Nat) (m7x : Bool) (o7x : Option Addr) (n7x : Nat) (c7x : Nat) (p7x : Option Addr) (k7x : Nat) (d7x : Nat) (m7y : Bool) (o7y : Option Addr) (n7y : Nat) (c7y : Nat) (p7y : Option Addr) (k7y : Nat) (d7y : Nat) (m8x : Bool) (o8x : Option Addr) (n8x : Nat) (c8x : Nat) (p8x : Option Addr) (k8x : Nat) (d8x : Nat) (m8y : Bool) (o8y : Option Addr) (n8y : Nat) (c8y : Nat) (p8y : Option Addr) (k8y : Nat) (d8y : Nat) (gpz : Nat), Below w.heap.size w w' → Box w' (gqa) [.int .i64 a0, .int .i64 a1] → Box w' (gqb) [.int .i64 b0, .int .i64 b1] → Box w' (gqv) [.int .i64 v0, .int .i64 v1] → Below w24.heap.size w24 w' → RF w' (.agg #[.bool m1x, .slice o1x n1x c1x, .slice p1x k1x d1x]) (1) ((a0 : Rat)) → RF w' (.agg #[.bool m1y, .slice o1y n1y c1y, .slice p1y k1y d1y]) (1) ((a1 : Rat)) → RF w' (.agg #[.bool m2x, .slice o2x n2x c2x, .slice p2x k2x d2x]) (1) ((b0 : Rat)) → RF w' (.agg #[.bool m2y, .slice o2y n2y c2y, .slice p2y k2y d2y]) (1) ((b1 : Rat)) → RF w' (.agg #[.bool m3x, .slice o3x n3x c3x, .slice p3x k3x d3x]) (1) ((v0 : Rat)) → RF w' (.agg #[.bool m3y, .slice o3y n3y c3y, .slice p3y k3y d3y]) (1) ((v1 : Rat)) → RF w' (.agg #[.bool m4, .slice o4 n4 c4, .slice p4 k4 d4]) (1 + 3 * (((1 + 1 + 2) + (1 + 1 + 2) + 2) + 2)) (areaQ [((a0 : Rat), (a1 : Rat)), ((b0 : Rat), (b1 : Rat)), ((v0 : Rat), (v1 : Rat))]) → RNum w' (.agg #[.bool m5, .slice o5 n5 c5]) (2) (crs a0 a1 b0 b1 v0 v1) → RF w' (.agg #[.bool m6, .slice o6 n6 c6, .slice p6 k6 d6]) (max 2 1) (((crs a0 a1 b0 b1 v0 v1 : Int) : Rat)) → RF w' (.agg #[.bool m7x, .slice o7x n7x c7x, .slice p7x k7x d7x]) (1) ((a0 : Rat)) → RF w' (.agg #[.bool m7y, .slice o7y n7y c7y, .slice p7y k7y d7y]) (1) ((a1 : Rat)) → RF w' (.agg #[.bool m8x, .slice o8x n8x c8x, .slice p8x k8x d8x]) (1) ((b0 : Rat)) → RF w' (.agg #[.bool m8y, .slice o8y n8y c8y, .slice p8y k8y d8y]) (1) ((b1 : Rat)) → Box w' gpz [.bool m1x, .slice o1x n1x c1x, .slice p1x k1x d1x, .bool m1y, .slice o1y n1y c1y, .slice p1y k1y d1y, .bool m2x, .slice o2x n2x c2x, .slice p2x k2x d2x, .bool m2y, .slice o2y n2y c2y, .slice p2y k2y d2y, .bool m3x, .slice o3x n3x c3x, .slice p3x k3x d3x, .bool m3y, .slice o3y n3y c3y, .slice p3y k3y d3y] → w24.heap.size ≤ gpz → WWk 9 #[true, true, true, true, true, true, true, true, true, true, true, true, true, true, true, true, true, true, true, false, false, false, true, true, false, false, false, false, false, false] (((((((((((((((ak.put (some 71) (.agg #[.bool m1x, .slice o1x n1x c1x, .slice p1x k1x d1x, .bool m1y, .slice o1y n1y c1y, .slice p1y k1y d1y])).put (some 73) (.agg #[.bool m2x, .slice o2x n2x c2x, .slice p2x k2x d2x, .bool m2y, .slice o2y n2y c2y, .slice p2y k2y d2y])).put (some 75) (.agg #[.bool m3x, .slice o3x n3x c3x, .slice p3x k3x d3x, .bool m3y, .slice o3y n3y c3y, .slice p3y k3y d3y])).put (some 76) (.slice (some ⟨gpz, 0, none⟩) 3 3)).put (some 77) (.agg #[.bool m4, .slice o4 n4 c4, .slice p4 k4 d4])).put (some 81) (.agg #[.bool m5, .slice o5 n5 c5])).put (some 82) (.agg #[.bool m6, .slice o6 n6 c6, .slice p6 k6 d6])).put (some 83) (.bool true)).put (some 84) (.bool true)).put (some 85) (.agg #[.int .i64 a0, .int .i64 a1])).put (some 86) (.agg #[.bool m7x, .slice o7x n7x c7x, .slice p7x k7x d7x, .bool m7y, .slice o7y n7y c7y, .slice p7y k7y d7y])).put (some 87) (.agg #[.int .i64 b0, .int .i64 b1])).put (some 88) (.agg #[.bool m8x, .slice o8x n8x c8x, .slice p8x k8x d8x, .bool m8y, .slice o8y n8y c8y, .slice p8y k8y d8y])).put (some 92) (.agg #[.int .i64 a0, .int .i64 a1])).put (some 93) (.agg #[.int .i64 b0, .int .i64 b1])) w' := by
        intro w38 m1x o1x n1x c1x p1x k1x d1x m1y o1y n1y c1y p1y k1y d1y m2x o2x n2x c2x p2x k2x d2x m2y o2y n2y c2y p2y k2y d2y m3x o3x n3x c3x p3x k3x d3x m3y o3y n3y c3y p3y k3y d3y m4 o4 n4 c4 p4 k4 d4 m5 o5 n5 c5 m6 o6 n6 c6 p6 k6 d6 m7x o7x n7x c7x p7x k7x d7x m7y o7y n7y c7y p7y k7y d7y m8x o8x n8x c8x p8x k8x d8x m8y o8y n8y c8y p8y k8y d8y gpz hB_0 qa_0 qb_0 qv_0 hWk_0 f1x_0 f1y_0 f2x_0 f2y_0 f3x_0 f3y_0 f4_0 f5_0 f6_0 f7x_0 f7y_0 f8x_0 f8y_0 pz_0 hgpz
        rw [HWk.out, HAk.out]
        try simp only [Act.put]
        try simp only [List.setIfInBounds_toArray, List.set_cons_zero, List.set_cons_succ]
        refine reg_all1 19 ?_ (by kernel_rfl) ?_ (fun K hK => ?_)
        rotate_left 1
        · simp only [List.getElem?_toArray, List.getElem?_cons_succ, List.getElem?_cons_zero]; exact rfl
        · go_simp
          refine (sDist2_any 1 _ _ 1 _ _ _ (by omega) (by omega) f7x_0.q f7y_0.q f8x_0.q f8y_0.q).mono ?_
          rintro e w39 ⟨m9, o9, n9, c9, p9, k9, d9, rfl, f9_0, hb39⟩
          have hB_1 := hB_0.trans (hb39.mono hB_0.size)
          have qa_1 := qa_0.below hb39
          have qb_1 := qb_0.below hb39
          have qv_1 := qv_0.below hb39
          have hWk_1 := hWk_0.trans (hb39.mono hWk_0.size)
          have f1x_1 := f1x_0.below hb39
          have f1y_1 := f1y_0.below hb39
          have f2x_1 := f2x_0.below hb39
          have f2y_1 := f2y_0.below hb39
          have f3x_1 := f3x_0.below hb39
          have f3y_1 := f3y_0.below hb39
          have f4_1 := f4_0.below hb39
          have f5_1 := f5_0.below hb39
          have f6_1 := f6_0.below hb39
          have f7x_1 := f7x_0.below hb39
          have f7y_1 := f7y_0.below hb39
          have f8x_1 := f8x_0.below hb39
          have f8y_1 := f8y_0.below hb39
          have pz_1 := pz_0.below hb39
          clear hb39 hB_0 qa_0 qb_0 qv_0 hWk_0 f1x_0 f1y_0 f2x_0 f2y_0 f3x_0 f3y_0 f4_0 f5_0 f6_0 f7x_0 f7y_0 f8x_0 f8y_0 pz_0
          go_wp2_with fail
          refine hK.out _ _ ⟨qa_1.c0, qa_1.c1, qb_1.c0, qb_1.c1, qv_1.c0, qv_1.c1⟩ (fun hHeld => ?_)
          clear hK K
          try simp only [Act.put]
          try simp only [List.setIfInBounds_toArray, List.set_cons_zero, List.set_cons_succ]
          rw [← HWk.out]
          exact stk_10t _ m1x o1x n1x c1x p1x k1x d1x m1y o1y n1y c1y p1y k1y d1y m2x o2x n2x c2x p2x k2x d2x m2y o2y n2y c2y p2y k2y d2y m3x o3x n3x c3x p3x k3x d3x m3y o3y n3y c3y p3y k3y d3y m4 o4 n4 c4 p4 k4 d4 m5 o5 n5 c5 m6 o6 n6 c6 p6 k6 d6 m7x o7x n7x c7x p7x k7x d7x m7y o7y n7y c7y p7y k7y d7y m8x o8x n8x c8x p8x k8x d8x m8y o8y n8y c8y p8y k8y d8y m9 o9 n9 c9 p9 k9 d9 gpz hB_1 qa_1 qb_1 qv_1 hWk_1 f1x_1 f1y_1 f2x_1 f2y_1 f3x_1 f3y_1 f4_1 f5_1 f6_1 f7x_1 f7y_1 f8x_1 f8y_1 f9_0 pz_1 (by omega)
      try simp only [HAk.out, Act.put, List.setIfInBounds_toArray, List.set_cons_zero, List.set_cons_succ] at stk_9t
      have stk_8t : ∀ (w' : World) (m1x : Bool) (o1x : Option Addr) (n1x : Nat) (c1x : Nat) (p1x : Option Addr) (k1x : Nat) (d1x : Nat) (m1y : Bool) (o1y : Option Addr) (n1y : Nat) (c1y : Nat) (p1y : Option Addr) (k1y : Nat) (d1y : Nat) (m2x : Bool) (o2x : Option Addr) (n2x : Nat) (c2x : Nat) (p2x : Option Addr) (k2x : Nat) (d2x : Nat) (m2y : Bool) (o2y : Option Addr) (n2y : Nat) (c2y : Nat) (p2y : Option Addr) (k2y : Nat) (d2y : Nat) (m3x : Bool) (o3x : Option Addr) (n3x : Nat) (c3x : Nat) (p3x : Option Addr) (k3x : Nat) (d3x : Nat) (m3y : Bool) (o3y : Option Addr) (n3y : Nat) (c3y : Nat) (p3y : Option Addr) (k3y : Nat) (d3y : Nat) (m4 : Bool) (o4 : Option Addr) (n4 : Nat) (c4 : Nat) (p4 : Option Addr) (k4 : Nat) (d4 : Nat) (m5 : Bool) (o5 : Option Addr) (n5 : Nat) (c5 : Nat) (m6 : Bool) (o6 : Option Addr) (n6 : Nat) (c6 : Nat) (p6 : Option Addr) (k6 : Nat) (d6 : Nat) (m7x : Bool) (o7x : Option Addr) (n7x : Nat) (c7x : Nat) (p7x : Option Addr) (k7x : Nat) (d7x : Nat) (m7y : Bool) (o7y : Option Addr) (n7y : Nat) (c7y : Nat) (p7y : Option Addr) (k7y : Nat) (d7y : Nat) (gpz : Nat), Below w.heap.size w w' → Box w' (gqa) [.int .i64 a0, .int .i64 a1] → Box w' (gqb) [.int .i64 b0, .int .i64 b1] → Box w' (gqv) [.int .i64 v0, .int .i64 v1] → Below w24.heap.size w24 w' → RF w' (.agg #[.bool m1x, .slice o1x n1x c1x, .slice p1x k1x d1x]) (1) ((a0 : Rat)) → RF w' (.agg #[.bool m1y, .slice o1y n1y c1y, .slice p1y k1y d1y]) (1) ((a1 : Rat)) → RF w' (.agg #[.bool m2x, .slice o2x n2x c2x, .slice p2x k2x d2x]) (1) ((b0 : Rat)) → RF w' (.agg #[.bool m2y, .slice o2y n2y c2y, .slice p2y k2y d2y]) (1) ((b1 : Rat)) → RF w' (.agg #[.bool m3x, .slice o3x n3x c3x, .slice p3x k3x d3x]) (1) ((v0 : Rat)) → RF w' (.agg #[.bool m3y, .slice o3y n3y c3y, .slice p3y k3y d3y]) (1) ((v1 : Rat)) → RF w' (.agg #[.bool m4, .slice o4 n4 c4, .slice p4 k4 d4]) (1 + 3 * (((1 + 1 + 2) + (1 + 1 + 2) + 2) + 2)) (areaQ [((a0 : Rat), (a1 : Rat)), ((b0 : Rat), (b1 : Rat)), ((v0 : Rat), (v1 : Rat))]) → RNum w' (.agg #[.bool m5, .slice o5 n5 c5]) (2) (crs a0 a1 b0 b1 v0 v1) → RF w' (.agg #[.bool m6, .slice o6 n6 c6, .slice p6 k6 d6]) (max 2 1) (((crs a0 a1 b0 b1 v0 v1 : Int) : Rat)) → RF w' (.agg #[.bool m7x, .slice o7x n7x c7x, .slice p7x k7x d7x]) (1) ((a0 : Rat)) → RF w' (.agg #[.bool m7y, .slice o7y n7y c7y, .slice p7y k7y d7y]) (1) ((a1 : Rat)) → Box w' gpz [.bool m1x, .slice o1x n1x c1x, .slice p1x k1x d1x, .bool m1y, .slice o1y n1y c1y, .slice p1y k1y d1y, .bool m2x, .slice o2x n2x c2x, .slice p2x k2x d2x, .bool m2y, .slice o2y n2y c2y, .slice p2y k2y d2y, .bool m3x, .slice o3x n3x c3x, .slice p3x k3x d3x, .bool m3y, .slice o3y n3y c3y, .slice p3y k3y d3y] → w24.heap.size ≤ gpz → WWk 10 #[true, true, true, true, true, true, true, true, true, true, true, true, true, true, true, true, true, true, false, false, false, false, true, true, false, false, false, false, false, false] ((((((((((((((ak.put (some 71) (.agg #[.bool m1x, .slice o1x n1x c1x, .slice p1x k1x d1x, .bool m1y, .slice o1y n1y c1y, .slice p1y k1y d1y])).put (some 73) (.agg #[.bool m2x, .slice o2x n2x c2x, .slice p2x k2x d2x, .bool m2y, .slice o2y n2y c2y, .slice p2y k2y d2y])).put (some 75) (.agg #[.bool m3x, .slice o3x n3x c3x, .slice p3x k3x d3x, .bool m3y, .slice o3y n3y c3y, .slice p3y k3y d3y])).put (some 76) (.slice (some ⟨gpz, 0, none⟩) 3 3)).put (some 77) (.agg #[.bool m4, .slice o4 n4 c4, .slice p4 k4 d4])).put (some 81) (.agg #[.bool m5, .slice o5 n5 c5])).put (some 82) (.agg #[.bool m6, .slice o6 n6 c6, .slice p6 k6 d6])).put (some 83) (.bool true)).put (some 84) (.bool true)).put (some 85) (.agg #[.int .i64 a0, .int .i64 a1])).put (some 86) (.agg #[.bool m7x, .slice o7x n7x c7x, .slice p7x k7x d7x, .bool m7y, .slice o7y n7y c7y, .slice p7y k7y d7y])).put (some 87) (.agg #[.int .i64 b0, .int .i64 b1])).put (some 92) (.agg #[.int .i64 a0, .int .i64 a1])).put (some 93) (.agg #[.int .i64 b0, .int .i64 b1])) w' := by
        intro w40 m1x o1x n1x c1x p1x k1x d1x m1y o1y n1y c1y p1y k1y d1y m2x o2x n2x c2x p2x k2x d2x m2y o2y n2y c2y p2y k2y d2y m3x o3x n3x c3x p3x k3x d3x m3y o3y n3y c3y p3y k3y d3y m4 o4 n4 c4 p4 k4 d4 m5 o5 n5 c5 m6 o6 n6 c6 p6 k6 d6 m7x o7x n7x c7x p7x k7x d7x m7y o7y n7y c7y p7y k7y d7y gpz hB_0 qa_0 qb_0 qv_0 hWk_0 f1x_0 f1y_0 f2x_0 f2y_0 f3x_0 f3y_0 f4_0 f5_0 f6_0 f7x_0 f7y_0 pz_0 hgpz
        rw [HWk.out, HAk.out]
        try simp only [Act.put]
        try simp only [List.setIfInBounds_toArray, List.set_cons_zero, List.set_cons_succ]
        refine reg_all1 18 ?_ (by kernel_rfl) ?_ (fun K hK => ?_)
        rotate_left 1
        · simp only [List.getElem?_toArray, List.getElem?_cons_succ, List.getElem?_cons_zero]; exact rfl
        · go_simp
          refine (sOf_any b0 b1 HB0.out HB1.out _).mono ?_
          rintro e w41 ⟨m8x, o8x, n8x, c8x, p8x, k8x, d8x, m8y, o8y, n8y, c8y, p8y, k8y, d8y, rfl, f8x_0, f8y_0, hb41⟩
          have hB_1 := hB_0.trans (hb41.mono hB_0.size)
          have qa_1 := qa_0.below hb41
          have qb_1 := qb_0.below hb41
          have qv_1 := qv_0.below hb41
          have hWk_1 := hWk_0.trans (hb41.mono hWk_0.size)
          have f1x_1 := f1x_0.below hb41
          have f1y_1 := f1y_0.below hb41
          have f2x_1 := f2x_0.below hb41
          have f2y_1 := f2y_0.below hb41
          have f3x_1 := f3x_0.below hb41
          have f3y_1 := f3y_0.below hb41
          have f4_1 := f4_0.below hb41
          have f5_1 := f5_0.below hb41
          have f6_1 := f6_0.below hb41
          have f7x_1 := f7x_0.below hb41
          have f7y_1 := f7y_0.below hb41
          have pz_1 := pz_0.below hb41
          clear hb41 hB_0 qa_0 qb_0 qv_0 hWk_0 f1x_0 f1y_0 f2x_0 f2y_0 f3x_0 f3y_0 f4_0 f5_0 f6_0 f7x_0 f7y_0 pz_0
          go_wp2_with fail
          refine hK.out _ _ ⟨qa_1.c0, qa_1.c1, qb_1.c0, qb_1.c1, qv_1.c0, qv_1.c1⟩ (fun hHeld => ?_)
          clear hK K
          try simp only [Act.put]
          try simp only [List.setIfInBounds_toArray, List.set_cons_zero, List.set_cons_succ]
          rw [← HWk.out]
          exact stk_9t _ m1x o1x n1x c1x p1x k1x d1x m1y o1y n1y c1y p1y k1y d1y m2x o2x n2x c2x p2x k2x d2x m2y o2y n2y c2y p2y k2y d2y m3x o3x n3x c3x p3x k3x d3x m3y o3y n3y c3y p3y k3y d3y m4 o4 n4 c4 p4 k4 d4 m5 o5 n5 c5 m6 o6 n6 c6 p6 k6 d6 m7x o7x n7x c7x p7x k7x d7x m7y o7y n7y c7y p7y k7y d7y m8x o8x n8x c8x p8x k8x d8x m8y o8y n8y c8y p8y k8y d8y gpz hB_1 qa_1 qb_1 qv_1 hWk_1 f1x_1 f1y_1 f2x_1 f2y_1 f3x_1 f3y_1 f4_1 f5_1 f6_1 f7x_1 f7y_1 f8x_0 f8y_0 pz_1 (by omega)
      try simp only [HAk.out, Act.put, List.setIfInBounds_toArray, List.set_cons_zero, List.set_cons_succ] at stk_8t
      have stk_7t : ∀ (w' : World) (m1x : Bool) (o1x : Option Addr) (n1x : Nat) (c1x : Nat) (p1x : Option Addr) (k1x : Nat) (d1x : Nat) (m1y : Bool) (o1y : Option Addr) (n1y : Nat) (c1y : Nat) (p1y : Option Addr) (k1y : Nat) (d1y : Nat) (m2x : Bool) (o2x : Option Addr) (n2x : Nat) (c2x : Nat) (p2x : Option Addr) (k2x : Nat) (d2x : Nat) (m2y : Bool) (o2y : Option Addr) (n2y : Nat) (c2y : Nat) (p2y : Option Addr) (k2y : Nat) (d2y : Nat) (m3x : Bool) (o3x : Option Addr) (n3x : Nat) (c3x : Nat) (p3x : Option Addr) (k3x : Nat) (d3x : Nat) (m3y : Bool) (o3y : Option Addr) (n3y : Nat) (c3y : Nat) (p3y : Option Addr) (k3y : Nat) (d3y : Nat) (m4 : Bool) (o4 : Option Addr) (n4 : Nat) (c4 : Nat) (p4 : Option Addr) (k4 : Nat) (d4 : Nat) (m5 : Bool) (o5 : Option Addr) (n5 : Nat) (c5 : Nat) (m6 : Bool) (o6 : Option Addr) (n6 : Nat) (c6 : Nat) (p6 : Option Addr) (k6 : Nat) (d6 : Nat) (gpz : Nat), Below w.heap.size w w' → Box w' (gqa) [.int .i64 a0, .int .i64 a1] → Box w' (gqb) [.int .i64 b0, .int .i64 b1] → Box w' (gqv) [.int .i64 v0, .int .i64 v1] → Below w24.heap.size w24 w' → RF w' (.agg #[.bool m1x, .slice o1x n1x c1x, .slice p1x k1x d1x]) (1) ((a0 : Rat)) → RF w' (.agg #[.bool m1y, .slice o1y n1y c1y, .slice p1y k1y d1y]) (1) ((a1 : Rat)) → RF w' (.agg #[.bool m2x, .slice o2x n2x c2x, .slice p2x k2x d2x]) (1) ((b0 : Rat)) → RF w' (.agg #[.bool m2y, .slice o2y n2y c2y, .slice p2y k2y d2y]) (1) ((b1 : Rat)) → RF w' (.agg #[.bool m3x, .slice o3x n3x c3x, .slice p3x k3x d3x]) (1) ((v0 : Rat)) → RF w' (.agg #[.bool m3y, .slice o3y n3y c3y, .slice p3y k3y d3y]) (1) ((v1 : Rat)) → RF w' (.agg #[.bool m4, .slice o4 n4 c4, .slice p4 k4 d4]) (1 + 3 * (((1 + 1 + 2) + (1 + 1 + 2) + 2) + 2)) (areaQ [((a0 : Rat), (a1 : Rat)), ((b0 : Rat), (b1 : Rat)), ((v0 : Rat), (v1 : Rat))]) → RNum w' (.agg #[.bool m5, .slice o5 n5 c5]) (2) (crs a0 a1 b0 b1 v0 v1) → RF w' (.agg #[.bool m6, .slice o6 n6 c6, .slice p6 k6 d6]) (max 2 1) (((crs a0 a1 b0 b1 v0 v1 : Int) : Rat)) → Box w' gpz [.bool m1x, .slice o1x n1x c1x, .slice p1x k1x d1x, .bool m1y, .slice o1y n1y c1y, .slice p1y k1y d1y, .bool m2x, .slice o2x n2x c2x, .slice p2x k2x d2x, .bool m2y, .slice o2y n2y c2y, .slice p2y k2y d2y, .bool m3x, .slice o3x n3x c3x, .slice p3x k3x d3x, .bool m3y, .slice o3y n3y c3y, .slice p3y k3y d3y] → w24.heap.size ≤ gpz → WWk 11 #[true, true, true, true, true, true, true, true, true, true, true, true, true, true, true, true, false, true, false, false, false, false, true, true, false, false, false, false, false, false] (((((((((((((ak.put (some 71) (.agg #[.bool m1x, .slice o1x n1x c1x, .slice p1x k1x d1x, .bool m1y, .slice o1y n1y c1y, .slice p1y k1y d1y])).put (some 73) (.agg #[.bool m2x, .slice o2x n2x c2x, .slice p2x k2x d2x, .bool m2y, .slice o2y n2y c2y, .slice p2y k2y d2y])).put (some 75) (.agg #[.bool m3x, .slice o3x n3x c3x, .slice p3x k3x d3x, .bool m3y, .slice o3y n3y c3y, .slice p3y k3y d3y])).put (some 76) (.slice (some ⟨gpz, 0, none⟩) 3 3)).put (some 77) (.agg #[.bool m4, .slice o4 n4 c4, .slice p4 k4 d4])).put (some 81) (.agg #[.bool m5, .slice o5 n5 c5])).put (some 82) (.agg #[.bool m6, .slice o6 n6 c6, .slice p6 k6 d6])).put (some 83) (.bool true)).put (some 84) (.bool true)).put (some 85) (.agg #[.int .i64 a0, .int .i64 a1])).put (some 87) (.agg #[.int .i64 b0, .int .i64 b1])).put (some 92) (.agg #[.int .i64 a0, .int .i64 a1])).put (some 93) (.agg #[.int .i64 b0, .int .i64 b1])) w' := by
        intro w42 m1x o1x n1x c1x p1x k1x d1x m1y o1y n1y c1y p1y k1y d1y m2x o2x n2x c2x p2x k2x d2x m2y o2y n2y c2y p2y k2y d2y m3x o3x n3x c3x p3x k3x d3x m3y o3y n3y c3y p3y k3y d3y m4 o4 n4 c4 p4 k4 d4 m5 o5 n5 c5 m6 o6 n6 c6 p6 k6 d6 gpz hB_0 qa_0 qb_0 qv_0 hWk_0 f1x_0 f1y_0 f2x_0 f2y_0 f3x_0 f3y_0 f4_0 f5_0 f6_0 pz_0 hgpz
        rw [HWk.out, HAk.out]
        try simp only [Act.put]
        try simp only [List.setIfInBounds_toArray, List.set_cons_zero, List.set_cons_succ]
        refine reg_all1 16 ?_ (by kernel_rfl) ?_ (fun K hK => ?_)
        rotate_left 1
        · simp only [List.getElem?_toArray, List.getElem?_cons_succ, List.getElem?_cons_zero]; exact rfl
        · go_simp
          refine (sOf_any a0 a1 HA0.out HA1.out _).mono ?_
          rintro e w43 ⟨m7x, o7x, n7x, c7x, p7x, k7x, d7x, m7y, o7y, n7y, c7y, p7y, k7y, d7y, rfl, f7x_0, f7y_0, hb43⟩
          have hB_1 := hB_0.trans (hb43.mono hB_0.size)
          have qa_1 := qa_0.below hb43
          have qb_1 := qb_0.below hb43
          have qv_1 := qv_0.below hb43
          have hWk_1 := hWk_0.trans (hb43.mono hWk_0.size)
          have f1x_1 := f1x_0.below hb43
          have f1y_1 := f1y_0.below hb43
          have f2x_1 := f2x_0.below hb43
          have f2y_1 := f2y_0.below hb43
          have f3x_1 := f3x_0.below hb43
          have f3y_1 := f3y_0.below hb43
          have f4_1 := f4_0.below hb43
          have f5_1 := f5_0.below hb43
          have f6_1 := f6_0.below hb43
          have pz_1 := pz_0.below hb43
          clear hb43 hB_0 qa_0 qb_0 qv_0 hWk_0 f1x_0 f1y_0 f2x_0 f2y_0 f3x_0 f3y_0 f4_0 f5_0 f6_0 pz_0
          go_wp2_with fail
          refine hK.out _ _ ⟨qa_1.c0, qa_1.c1, qb_1.c0, qb_1.c1, qv_1.c0, qv_1.c1⟩ (fun hHeld => ?_)
          clear hK K
          try simp only [Act.put]
          try simp only [List.setIfInBounds_toArray, List.set_cons_zero, List.set_cons_succ]
          rw [← HWk.out]
          exact stk_8t _ m1x o1x n1x c1x p1x k1x d1x m1y o1y n1y c1y p1y k1y d1y m2x o2x n2x c2x p2x k2x d2x m2y o2y n2y c2y p2y k2y d2y m3x o3x n3x c3x p3x k3x d3x m3y o3y n3y c3y p3y k3y d3y m4 o4 n4 c4 p4 k4 d4 m5 o5 n5 c5 m6 o6 n6 c6 p6 k6 d6 m7x o7x n7x c7x p7x k7x d7x m7y o7y n7y c7y p7y k7y d7y gpz hB_1 qa_1 qb_1 qv_1 hWk_1 f1x_1 f1y_1 f2x_1 f2y_1 f3x_1 f3y_1 f4_1 f5_1 f6_1 f7x_0 f7y_0 pz_1 (by omega)
      try simp only [HAk.out, Act.put, List.setIfInBounds_toArray, List.set_cons_zero, List.set_cons_succ] at stk_7t
      have stk_6t : ∀ (w' : World) (m1x : Bool) (o1x : Option Addr) (n1x : Nat) (c1x : Nat) (p1x : Option Addr) (k1x : Nat) (d1x : Nat) (m1y : Bool) (o1y : Option Addr) (n1y : Nat) (c1y : Nat) (p1y : Option Addr) (k1y : Nat) (d1y : Nat) (m2x : Bool) (o2x : Option Addr) (n2x : Nat) (c2x : Nat) (p2x : Option Addr) (k2x : Nat) (d2x : Nat) (m2y : Bool) (o2y : Option Addr) (n2y : Nat) (c2y : Nat) (p2y : Option Addr) (k2y : Nat) (d2y : Nat) (m3x : Bool) (o3x : Option Addr) (n3x : Nat) (c3x : Nat) (p3x : Option Addr) (k3x : Nat) (d3x : Nat) (m3y : Bool) (o3y : Option Addr) (n3y : Nat) (c3y : Nat) (p3y : Option Addr) (k3y : Nat) (d3y : Nat) (m4 : Bool) (o4 : Option Addr) (n4 : Nat) (c4 : Nat) (p4 : Option Addr) (k4 : Nat) (d4 : Nat) (m5 : Bool) (o5 : Option Addr) (n5 : Nat) (c5 : Nat) (m6 : Bool) (o6 : Option Addr) (n6 : Nat) (c6 : Nat) (p6 : Option Addr) (k6 : Nat) (d6 : Nat) (gpz : Nat), Below w.heap.size w w' → Box w' (gqa) [.int .i64 a0, .int .i64 a1] → Box w' (gqb) [.int .i64 b0, .int .i64 b1] → Box w' (gqv) [.int .i64 v0, .int .i64 v1] → Below w24.heap.size w24 w' → RF w' (.agg #[.bool m1x, .slice o1x n1x c1x, .slice p1x k1x d1x]) (1) ((a0 : Rat)) → RF w' (.agg #[.bool m1y, .slice o1y n1y c1y, .slice p1y k1y d1y]) (1) ((a1 : Rat)) → RF w' (.agg #[.bool m2x, .slice o2x n2x c2x, .slice p2x k2x d2x]) (1) ((b0 : Rat)) → RF w' (.agg #[.bool m2y, .slice o2y n2y c2y, .slice p2y k2y d2y]) (1) ((b1 : Rat)) → RF w' (.agg #[.bool m3x, .slice o3x n3x c3x, .slice p3x k3x d3x]) (1) ((v0 : Rat)) → RF w' (.agg #[.bool m3y, .slice o3y n3y c3y, .slice p3y k3y d3y]) (1) ((v1 : Rat)) → RF w' (.agg #[.bool m4, .slice o4 n4 c4, .slice p4 k4 d4]) (1 + 3 * (((1 + 1 + 2) + (1 + 1 + 2) + 2) + 2)) (areaQ [((a0 : Rat), (a1 : Rat)), ((b0 : Rat), (b1 : Rat)), ((v0 : Rat), (v1 : Rat))]) → RNum w' (.agg #[.bool m5, .slice o5 n5 c5]) (2) (crs a0 a1 b0 b1 v0 v1) → RF w' (.agg #[.bool m6, .slice o6 n6 c6, .slice p6 k6 d6]) (max 2 1) (((crs a0 a1 b0 b1 v0 v1 : Int) : Rat)) → Box w' gpz [.bool m1x, .slice o1x n1x c1x, .slice p1x k1x d1x, .bool m1y, .slice o1y n1y c1y, .slice p1y k1y d1y, .bool m2x, .slice o2x n2x c2x, .slice p2x k2x d2x, .bool m2y, .slice o2y n2y c2y, .slice p2y k2y d2y, .bool m3x, .slice o3x n3x c3x, .slice p3x k3x d3x, .bool m3y, .slice o3y n3y c3y, .slice p3y k3y d3y] → w24.heap.size ≤ gpz → WWk 17 #[true, true, true, true, true, true, true, true, true, true, true, true, true, false, false, false, false, false, false, false, false, false, false, false, false, false, false, false, false, false] (((((((ak.put (some 71) (.agg #[.bool m1x, .slice o1x n1x c1x, .slice p1x k1x d1x, .bool m1y, .slice o1y n1y c1y, .slice p1y k1y d1y])).put (some 73) (.agg #[.bool m2x, .slice o2x n2x c2x, .slice p2x k2x d2x, .bool m2y, .slice o2y n2y c2y, .slice p2y k2y d2y])).put (some 75) (.agg #[.bool m3x, .slice o3x n3x c3x, .slice p3x k3x d3x, .bool m3y, .slice o3y n3y c3y, .slice p3y k3y d3y])).put (some 76) (.slice (some ⟨gpz, 0, none⟩) 3 3)).put (some 77) (.agg #[.bool m4, .slice o4 n4 c4, .slice p4 k4 d4])).put (some 81) (.agg #[.bool m5, .slice o5 n5 c5])).put (some 82) (.agg #[.bool m6, .slice o6 n6 c6, .slice p6 k6 d6])) w' := by
        intro w44 m1x o1x n1x c1x p1x k1x d1x m1y o1y n1y c1y p1y k1y d1y m2x o2x n2x c2x p2x k2x d2x m2y o2y n2y c2y p2y k2y d2y m3x o3x n3x c3x p3x k3x d3x m3y o3y n3y c3y p3y k3y d3y m4 o4 n4 c4 p4 k4 d4 m5 o5 n5 c5 m6 o6 n6 c6 p6 k6 d6 gpz hB_0 qa_0 qb_0 qv_0 hWk_0 f1x_0 f1y_0 f2x_0 f2y_0 f3x_0 f3y_0 f4_0 f5_0 f6_0 pz_0 hgpz
        rw [HWk.out, HAk.out]
        try simp only [Act.put]
        try simp only [List.setIfInBounds_toArray, List.set_cons_zero, List.set_cons_succ]
        refine reg_all1 13 ?_ (by kernel_rfl) ?_ (fun K hK => ?_)
        rotate_left 1
        · simp only [List.getElem?_toArray, List.getElem?_cons_succ, List.getElem?_cons_zero]; exact rfl
        · go_simp
          refine (qSame_yes _ _ (1 + 3 * (((1 + 1 + 2) + (1 + 1 + 2) + 2) + 2)) (max 2 1) _ _ _ (by omega) (by omega) f4_0.q f6_0.q (areaQ_crs _ _ _ _ _ _)).mono ?_
          rintro e w45 ⟨rfl, hb45⟩
          have hB_1 := hB_0.trans (hb45.mono hB_0.size)
          have qa_1 := qa_0.below hb45
          have qb_1 := qb_0.below hb45
          have qv_1 := qv_0.below hb45
          have hWk_1 := hWk_0.trans (hb45.mono hWk_0.size)
          have f1x_1 := f1x_0.below hb45
          have f1y_1 := f1y_0.below hb45
          have f2x_1 := f2x_0.below hb45
          have f2y_1 := f2y_0.below hb45
          have f3x_1 := f3x_0.below hb45
          have f3y_1 := f3y_0.below hb45
          have f4_1 := f4_0.below hb45
          have f5_1 := f5_0.below hb45
          have f6_1 := f6_0.below hb45
          have pz_1 := pz_0.below hb45
          clear hb45 hB_0 qa_0 qb_0 qv_0 hWk_0 f1x_0 f1y_0 f2x_0 f2y_0 f3x_0 f3y_0 f4_0 f5_0 f6_0 pz_0
          go_wp2_with fail
          refine hK.out _ _ ⟨qa_1.c0, qa_1.c1, qb_1.c0, qb_1.c1, qv_1.c0, qv_1.c1⟩ (fun hHeld => ?_)
          clear hK K
          try simp only [Act.put]
          try simp only [List.setIfInBounds_toArray, List.set_cons_zero, List.set_cons_succ]
          refine reg_take 14 ?_ ?_ ?_ (by kernel_rfl) (by kernel_rfl) (by kernel_rfl) (fun _ _ _ h => h) ?_ ?_ (by assumption) ?_
          rotate_left 2
          · simp only [List.getElem?_toArray, List.getElem?_cons_succ, List.getElem?_cons_zero]; exact rfl
          · rfl
          · intro w hSw; (try dsimp only at hSw); go_simp; try with_reducible rfl
          try simp only [Act.put]
          try simp only [List.setIfInBounds_toArray, List.set_cons_zero, List.set_cons_succ]
          refine reg_take 15 ?_ ?_ ?_ (by kernel_rfl) (by kernel_rfl) (by kernel_rfl) (fun _ _ _ h => h) ?_ ?_ (by assumption) ?_
          rotate_left 2
          · simp only [List.getElem?_toArray, List.getElem?_cons_succ, List.getElem?_cons_zero]; exact rfl
          · rfl
          · intro w hSw; (try dsimp only at hSw); go_simp; try with_reducible rfl
          try simp only [Act.put]
          try simp only [List.setIfInBounds_toArray, List.set_cons_zero, List.set_cons_succ]
          refine reg_take 17 ?_ ?_ ?_ (by kernel_rfl) (by kernel_rfl) (by kernel_rfl) (fun _ _ _ h => h) ?_ ?_ (by assumption) ?_
          rotate_left 2
          · simp only [List.getElem?_toArray, List.getElem?_cons_succ, List.getElem?_cons_zero]; exact rfl
          · rfl
          · intro w hSw; (try dsimp only at hSw); go_simp; try with_reducible rfl
          try simp only [Act.put]
          try simp only [List.setIfInBounds_toArray, List.set_cons_zero, List.set_cons_succ]
          refine reg_take 22 ?_ ?_ ?_ (by kernel_rfl) (by kernel_rfl) (by kernel_rfl) (fun _ _ _ h => h) ?_ ?_ (by assumption) ?_
          rotate_left 2
          · simp only [List.getElem?_toArray, List.getElem?_cons_succ, List.getElem?_cons_zero]; exact rfl
          · rfl
          · intro w hSw; (try dsimp only at hSw); go_simp; try with_reducible rfl
          try simp only [Act.put]
          try simp only [List.setIfInBounds_toArray, List.set_cons_zero, List.set_cons_succ]
          refine reg_take 23 ?_ ?_ ?_ (by kernel_rfl) (by kernel_rfl) (by kernel_rfl) (fun _ _ _ h => h) ?_ ?_ (by assumption) ?_
          rotate_left 2
          · simp only [List.getElem?_toArray, List.getElem?_cons_succ, List.getElem?_cons_zero]; exact rfl
          · rfl
          · intro w hSw; (try dsimp only at hSw); go_simp; try with_reducible rfl
          try simp only [Act.put]
          try simp only [List.setIfInBounds_toArray, List.set_cons_zero, List.set_cons_succ]
          rw [← HWk.out]
          exact stk_7t _ m1x o1x n1x c1x p1x k1x d1x m1y o1y n1y c1y p1y k1y d1y m2x o2x n2x c2x p2x k2x d2x m2y o2y n2y c2y p2y k2y d2y m3x o3x n3x c3x p3x k3x d3x m3y o3y n3y c3y p3y k3y d3y m4 o4 n4 c4 p4 k4 d4 m5 o5 n5 c5 m6 o6 n6 c6 p6 k6 d6 gpz hB_1 qa_1 qb_1 qv_1 hWk_1 f1x_1 f1y_1 f2x_1 f2y_1 f3x_1 f3y_1 f4_1 f5_1 f6_1 pz_1 (by omega)
      try simp only [HAk.out, Act.put, List.setIfInBounds_toArray, List.set_cons_zero, List.set_cons_succ] at stk_6t
      have stk_5t : ∀ (w' : World) (m1x : Bool) (o1x : Option Addr) (n1x : Nat) (c1x : Nat) (p1x : Option Addr) (k1x : Nat) (d1x : Nat) (m1y : Bool) (o1y : Option Addr) (n1y : Nat) (c1y : Nat) (p1y : Option Addr) (k1y : Nat) (d1y : Nat) (m2x : Bool) (o2x : Option Addr) (n2x : Nat) (c2x : Nat) (p2x : Option Addr) (k2x : Nat) (d2x : Nat) (m2y : Bool) (o2y : Option Addr) (n2y : Nat) (c2y : Nat) (p2y : Option Addr) (k2y : Nat) (d2y : Nat) (m3x : Bool) (o3x : Option Addr) (n3x : Nat) (c3x : Nat) (p3x : Option Addr) (k3x : Nat) (d3x : Nat) (m3y : Bool) (o3y : Option Addr) (n3y : Nat) (c3y : Nat) (p3y : Option Addr) (k3y : Nat) (d3y : Nat) (m4 : Bool) (o4 : Option Addr) (n4 : Nat) (c4 : Nat) (p4 : Option Addr) (k4 : Nat) (d4 : Nat) (m5 : Bool) (o5 : Option Addr) (n5 : Nat) (c5 : Nat) (gpz : Nat), Below w.heap.size w w' → Box w' (gqa) [.int .i64 a0, .int .i64 a1] → Box w' (gqb) [.int .i64 b0, .int .i64 b1] → Box w' (gqv) [.int .i64 v0, .int .i64 v1] → Below w24.heap.size w24 w' → RF w' (.agg #[.bool m1x, .slice o1x n1x c1x, .slice p1x k1x d1x]) (1) ((a0 : Rat)) → RF w' (.agg #[.bool m1y, .slice o1y n1y c1y, .slice p1y k1y d1y]) (1) ((a1 : Rat)) → RF w' (.agg #[.bool m2x, .slice o2x n2x c2x, .slice p2x k2x d2x]) (1) ((b0 : Rat)) → RF w' (.agg #[.bool m2y, .slice o2y n2y c2y, .slice p2y k2y d2y]) (1) ((b1 : Rat)) → RF w' (.agg #[.bool m3x, .slice o3x n3x c3x, .slice p3x k3x d3x]) (1) ((v0 : Rat)) → RF w' (.agg #[.bool m3y, .slice o3y n3y c3y, .slice p3y k3y d3y]) (1) ((v1 : Rat)) → RF w' (.agg #[.bool m4, .slice o4 n4 c4, .slice p4 k4 d4]) (1 + 3 * (((1 + 1 + 2) + (1 + 1 + 2) + 2) + 2)) (areaQ [((a0 : Rat), (a1 : Rat)), ((b0 : Rat), (b1 : Rat)), ((v0 : Rat), (v1 : Rat))]) → RNum w' (.agg #[.bool m5, .slice o5 n5 c5]) (2) (crs a0 a1 b0 b1 v0 v1) → Box w' gpz [.bool m1x, .slice o1x n1x c1x, .slice p1x k1x d1x, .bool m1y, .slice o1y n1y c1y, .slice p1y k1y d1y, .bool m2x, .slice o2x n2x c2x, .slice p2x k2x d2x, .bool m2y, .slice o2y n2y c2y, .slice p2y k2y d2y, .bool m3x, .slice o3x n3x c3x, .slice p3x k3x d3x, .bool m3y, .slice o3y n3y c3y, .slice p3y k3y d3y] → w24.heap.size ≤ gpz → WWk 18 #[true, true, true, true, true, true, true, true, true, true, true, true, false, false, false, false, false, false, false, false, false, false, false, false, false, false, false, false, false, false] ((((((ak.put (some 71) (.agg #[.bool m1x, .slice o1x n1x c1x, .slice p1x k1x d1x, .bool m1y, .slice o1y n1y c1y, .slice p1y k1y d1y])).put (some 73) (.agg #[.bool m2x, .slice o2x n2x c2x, .slice p2x k2x d2x, .bool m2y, .slice o2y n2y c2y, .slice p2y k2y d2y])).put (some 75) (.agg #[.bool m3x, .slice o3x n3x c3x, .slice p3x k3x d3x, .bool m3y, .slice o3y n3y c3y, .slice p3y k3y d3y])).put (some 76) (.slice (some ⟨gpz, 0, none⟩) 3 3)).put (some 77) (.agg #[.bool m4, .slice o4 n4 c4, .slice p4 k4 d4])).put (some 81) (.agg #[.bool m5, .slice o5 n5 c5])) w' := by
        intro w46 m1x o1x n1x c1x p1x k1x d1x m1y o1y n1y c1y p1y k1y d1y m2x o2x n2x c2x p2x k2x d2x m2y o2y n2y c2y p2y k2y d2y m3x o3x n3x c3x p3x k3x d3x m3y o3y n3y c3y p3y k3y d3y m4 o4 n4 c4 p4 k4 d4 m5 o5 n5 c5 gpz hB_0 qa_0 qb_0 qv_0 hWk_0 f1x_0 f1y_0 f2x_0 f2y_0 f3x_0 f3y_0 f4_0 f5_0 pz_0 hgpz
        rw [HWk.out, HAk.out]
        try simp only [Act.put]
        try simp only [List.setIfInBounds_toArray, List.set_cons_zero, List.set_cons_succ]
        refine reg_all1 12 ?_ (by kernel_rfl) ?_ (fun K hK => ?_)
        rotate_left 1
        · simp only [List.getElem?_toArray, List.getElem?_cons_succ, List.getElem?_cons_zero]; exact rfl
        · go_simp
          refine (Whole_any _ 2 _ _ (by omega) f5_0.num).mono ?_
          rintro e w47 ⟨m6, o6, n6, c6, p6, k6, d6, rfl, f6_0, hb47⟩
          have hB_1 := hB_0.trans (hb47.mono hB_0.size)
          have qa_1 := qa_0.below hb47
          have qb_1 := qb_0.below hb47
          have qv_1 := qv_0.below hb47
          have hWk_1 := hWk_0.trans (hb47.mono hWk_0.size)
          have f1x_1 := f1x_0.below hb47
          have f1y_1 := f1y_0.below hb47
          have f2x_1 := f2x_0.below hb47
          have f2y_1 := f2y_0.below hb47
          have f3x_1 := f3x_0.below hb47
          have f3y_1 := f3y_0.below hb47
          have f4_1 := f4_0.below hb47
          have f5_1 := f5_0.below hb47
          have pz_1 := pz_0.below hb47
          clear hb47 hB_0 qa_0 qb_0 qv_0 hWk_0 f1x_0 f1y_0 f2x_0 f2y_0 f3x_0 f3y_0 f4_0 f5_0 pz_0
          go_wp2_with fail
          refine hK.out _ _ ⟨qa_1.c0, qa_1.c1, qb_1.c0, qb_1.c1, qv_1.c0, qv_1.c1⟩ (fun hHeld => ?_)
          clear hK K
          try simp only [Act.put]
          try simp only [List.setIfInBounds_toArray, List.set_cons_zero, List.set_cons_succ]
          rw [← HWk.out]
          exact stk_6t _ m1x o1x n1x c1x p1x k1x d1x m1y o1y n1y c1y p1y k1y d1y m2x o2x n2x c2x p2x k2x d2x m2y o2y n2y c2y p2y k2y d2y m3x o3x n3x c3x p3x k3x d3x m3y o3y n3y c3y p3y k3y d3y m4 o4 n4 c4 p4 k4 d4 m5 o5 n5 c5 m6 o6 n6 c6 p6 k6 d6 gpz hB_1 qa_1 qb_1 qv_1 hWk_1 f1x_1 f1y_1 f2x_1 f2y_1 f3x_1 f3y_1 f4_1 f5_1 f6_0 pz_1 (by omega)
      try simp only [HAk.out, Act.put, List.setIfInBounds_toArray, List.set_cons_zero, List.set_cons_succ] at stk_5t
      have stk_4t : ∀ (w' : World) (m1x : Bool) (o1x : Option Addr) (n1x : Nat) (c1x : Nat) (p1x : Option Addr) (k1x : Nat) (d1x : Nat) (m1y : Bool) (o1y : Option Addr) (n1y : Nat) (c1y : Nat) (p1y : Option Addr) (k1y : Nat) (d1y : Nat) (m2x : Bool) (o2x : Option Addr) (n2x : Nat) (c2x : Nat) (p2x : Option Addr) (k2x : Nat) (d2x : Nat) (m2y : Bool) (o2y : Option Addr) (n2y : Nat) (c2y : Nat) (p2y : Option Addr) (k2y : Nat) (d2y : Nat) (m3x : Bool) (o3x : Option Addr) (n3x : Nat) (c3x : Nat) (p3x : Option Addr) (k3x : Nat) (d3x : Nat) (m3y : Bool) (o3y : Option Addr) (n3y : Nat) (c3y : Nat) (p3y : Option Addr) (k3y : Nat) (d3y : Nat) (m4 : Bool) (o4 : Option Addr) (n4 : Nat) (c4 : Nat) (p4 : Option Addr) (k4 : Nat) (d4 : Nat) (gpz : Nat), Below w.heap.size w w' → Box w' (gqa) [.int .i64 a0, .int .i64 a1] → Box w' (gqb) [.int .i64 b0, .int .i64 b1] → Box w' (gqv) [.int .i64 v0, .int .i64 v1] → Below w24.heap.size w24 w' → RF w' (.agg #[.bool m1x, .slice o1x n1x c1x, .slice p1x k1x d1x]) (1) ((a0 : Rat)) → RF w' (.agg #[.bool m1y, .slice o1y n1y c1y, .slice p1y k1y d1y]) (1) ((a1 : Rat)) → RF w' (.agg #[.bool m2x, .slice o2x n2x c2x, .slice p2x k2x d2x]) (1) ((b0 : Rat)) → RF w' (.agg #[.bool m2y, .slice o2y n2y c2y, .slice p2y k2y d2y]) (1) ((b1 : Rat)) → RF w' (.agg #[.bool m3x, .slice o3x n3x c3x, .slice p3x k3x d3x]) (1) ((v0 : Rat)) → RF w' (.agg #[.bool m3y, .slice o3y n3y c3y, .slice p3y k3y d3y]) (1) ((v1 : Rat)) → RF w' (.agg #[.bool m4, .slice o4 n4 c4, .slice p4 k4 d4]) (1 + 3 * (((1 + 1 + 2) + (1 + 1 + 2) + 2) + 2)) (areaQ [((a0 : Rat), (a1 : Rat)), ((b0 : Rat), (b1 : Rat)), ((v0 : Rat), (v1 : Rat))]) → Box w' gpz [.bool m1x, .slice o1x n1x c1x, .slice p1x k1x d1x, .bool m1y, .slice o1y n1y c1y, .slice p1y k1y d1y, .bool m2x, .slice o2x n2x c2x, .slice p2x k2x d2x, .bool m2y, .slice o2y n2y c2y, .slice p2y k2y d2y, .bool m3x, .slice o3x n3x c3x, .slice p3x k3x d3x, .bool m3y, .slice o3y n3y c3y, .slice p3y k3y d3y] → w24.heap.size ≤ gpz → WWk 19 #[true, true, true, true, true, true, true, true, true, true, true, false, false, false, false, false, false, false, false, false, false, false, false, false, false, false, false, false, false, false] (((((ak.put (some 71) (.agg #[.bool m1x, .slice o1x n1x c1x, .slice p1x k1x d1x, .bool m1y, .slice o1y n1y c1y, .slice p1y k1y d1y])).put (some 73) (.agg #[.bool m2x, .slice o2x n2x c2x, .slice p2x k2x d2x, .bool m2y, .slice o2y n2y c2y, .slice p2y k2y d2y])).put (some 75) (.agg #[.bool m3x, .slice o3x n3x c3x, .slice p3x k3x d3x, .bool m3y, .slice o3y n3y c3y, .slice p3y k3y d3y])).put (some 76) (.slice (some ⟨gpz, 0, none⟩) 3 3)).put (some 77) (.agg #[.bool m4, .slice o4 n4 c4, .slice p4 k4 d4])) w' := by
        intro w48 m1x o1x n1x c1x p1x k1x d1x m1y o1y n1y c1y p1y k1y d1y m2x o2x n2x c2x p2x k2x d2x m2y o2y n2y c2y p2y k2y d2y m3x o3x n3x c3x p3x k3x d3x m3y o3y n3y c3y p3y k3y d3y m4 o4 n4 c4 p4 k4 d4 gpz hB_0 qa_0 qb_0 qv_0 hWk_0 f1x_0 f1y_0 f2x_0 f2y_0 f3x_0 f3y_0 f4_0 pz_0 hgpz
        rw [HWk.out, HAk.out]
        try simp only [Act.put]
        try simp only [List.setIfInBounds_toArray, List.set_cons_zero, List.set_cons_succ]
        refine reg_all1 11 ?_ (by kernel_rfl) ?_ (fun K hK => ?_)
        rotate_left 1
        · simp only [List.getElem?_toArray, List.getElem?_cons_succ, List.getElem?_cons_zero]; exact rfl
        · go_simp
          refine (Area2_any a0 a1 b0 b1 v0 v1 HA0.out HA1.out HB0.out HB1.out HV0.out HV1.out _).mono ?_
          rintro e w49 ⟨m5, o5, n5, c5, rfl, f5_0, hb49⟩
          have hB_1 := hB_0.trans (hb49.mono hB_0.size)
          have qa_1 := qa_0.below hb49
          have qb_1 := qb_0.below hb49
          have qv_1 := qv_0.below hb49
          have hWk_1 := hWk_0.trans (hb49.mono hWk_0.size)
          have f1x_1 := f1x_0.below hb49
          have f1y_1 := f1y_0.below hb49
          have f2x_1 := f2x_0.below hb49
          have f2y_1 := f2y_0.below hb49
          have f3x_1 := f3x_0.below hb49
          have f3y_1 := f3y_0.below hb49
          have f4_1 := f4_0.below hb49
          have pz_1 := pz_0.below hb49
          clear hb49 hB_0 qa_0 qb_0 qv_0 hWk_0 f1x_0 f1y_0 f2x_0 f2y_0 f3x_0 f3y_0 f4_0 pz_0
          go_wp2_with fail
          refine hK.out _ _ ⟨qa_1.c0, qa_1.c1, qb_1.c0, qb_1.c1, qv_1.c0, qv_1.c1⟩ (fun hHeld => ?_)
          clear hK K
          try simp only [Act.put]
          try simp only [List.setIfInBounds_toArray, List.set_cons_zero, List.set_cons_succ]
          rw [← HWk.out]
          exact stk_5t _ m1x o1x n1x c1x p1x k1x d1x m1y o1y n1y c1y p1y k1y d1y m2x o2x n2x c2x p2x k2x d2x m2y o2y n2y c2y p2y k2y d2y m3x o3x n3x c3x p3x k3x d3x m3y o3y n3y c3y p3y k3y d3y m4 o4 n4 c4 p4 k4 d4 m5 o5 n5 c5 gpz hB_1 qa_1 qb_1 qv_1 hWk_1 f1x_1 f1y_1 f2x_1 f2y_1 f3x_1 f3y_1 f4_1 f5_0 pz_1 (by omega)
      try simp only [HAk.out, Act.put, List.setIfInBounds_toArray, List.set_cons_zero, List.set_cons_succ] at stk_4t
      have stk_3t : ∀ (w' : World) (m1x : Bool) (o1x : Option Addr) (n1x : Nat) (c1x : Nat) (p1x : Option Addr) (k1x : Nat) (d1x : Nat) (m1y : Bool) (o1y : Option Addr) (n1y : Nat) (c1y : Nat) (p1y : Option Addr) (k1y : Nat) (d1y : Nat) (m2x : Bool) (o2x : Option Addr) (n2x : Nat) (c2x : Nat) (p2x : Option Addr) (k2x : Nat) (d2x : Nat) (m2y : Bool) (o2y : Option Addr) (n2y : Nat) (c2y : Nat) (p2y : Option Addr) (k2y : Nat) (d2y : Nat) (m3x : Bool) (o3x : Option Addr) (n3x : Nat) (c3x : Nat) (p3x : Option Addr) (k3x : Nat) (d3x : Nat) (m3y : Bool) (o3y : Option Addr) (n3y : Nat) (c3y : Nat) (p3y : Option Addr) (k3y : Nat) (d3y : Nat) (gpz : Nat), Below w.heap.size w w' → Box w' (gqa) [.int .i64 a0, .int .i64 a1] → Box w' (gqb) [.int .i64 b0, .int .i64 b1] → Box w' (gqv) [.int .i64 v0, .int .i64 v1] → Below w24.heap.size w24 w' → RF w' (.agg #[.bool m1x, .slice o1x n1x c1x, .slice p1x k1x d1x]) (1) ((a0 : Rat)) → RF w' (.agg #[.bool m1y, .slice o1y n1y c1y, .slice p1y k1y d1y]) (1) ((a1 : Rat)) → RF w' (.agg #[.bool m2x, .slice o2x n2x c2x, .slice p2x k2x d2x]) (1) ((b0 : Rat)) → RF w' (.agg #[.bool m2y, .slice o2y n2y c2y, .slice p2y k2y d2y]) (1) ((b1 : Rat)) → RF w' (.agg #[.bool m3x, .slice o3x n3x c3x, .slice p3x k3x d3x]) (1) ((v0 : Rat)) → RF w' (.agg #[.bool m3y, .slice o3y n3y c3y, .slice p3y k3y d3y]) (1) ((v1 : Rat)) → Box w' gpz [.bool m1x, .slice o1x n1x c1x, .slice p1x k1x d1x, .bool m1y, .slice o1y n1y c1y, .slice p1y k1y d1y, .bool m2x, .slice o2x n2x c2x, .slice p2x k2x d2x, .bool m2y, .slice o2y n2y c2y, .slice p2y k2y d2y, .bool m3x, .slice o3x n3x c3x, .slice p3x k3x d3x, .bool m3y, .slice o3y n3y c3y, .slice p3y k3y d3y] → w24.heap.size ≤ gpz → WWk 20 #[true, true, true, true, true, true, true, false, true, true, true, false, false, false, false, false, false, false, false, false, false, false, false, false, false, false, false, false, false, false] ((((ak.put (some 71) (.agg #[.bool m1x, .slice o1x n1x c1x, .slice p1x k1x d1x, .bool m1y, .slice o1y n1y c1y, .slice p1y k1y d1y])).put (some 73) (.agg #[.bool m2x, .slice o2x n2x c2x, .slice p2x k2x d2x, .bool m2y, .slice o2y n2y c2y, .slice p2y k2y d2y])).put (some 75) (.agg #[.bool m3x, .slice o3x n3x c3x, .slice p3x k3x d3x, .bool m3y, .slice o3y n3y c3y, .slice p3y k3y d3y])).put (some 76) (.slice (some ⟨gpz, 0, none⟩) 3 3)) w' := by
        intro w50 m1x o1x n1x c1x p1x k1x d1x m1y o1y n1y c1y p1y k1y d1y m2x o2x n2x c2x p2x k2x d2x m2y o2y n2y c2y p2y k2y d2y m3x o3x n3x c3x p3x k3x d3x m3y o3y n3y c3y p3y k3y d3y gpz hB_0 qa_0 qb_0 qv_0 hWk_0 f1x_0 f1y_0 f2x_0 f2y_0 f3x_0 f3y_0 pz_0 hgpz
        rw [HWk.out, HAk.out]
        try simp only [Act.put]
        try simp only [List.setIfInBounds_toArray, List.set_cons_zero, List.set_cons_succ]
        refine reg_all1 7 ?_ (by kernel_rfl) ?_ (fun K hK => ?_)
        rotate_left 1
        · simp only [List.getElem?_toArray, List.getElem?_cons_succ, List.getElem?_cons_zero]; exact rfl
        · go_simp
          refine (sArea2_three 1 _ _ _ _ _ _ _ (by omega) pz_0 f1x_0.q f1y_0.q f2x_0.q f2y_0.q f3x_0.q f3y_0.q).mono ?_
          rintro e w51 ⟨m4, o4, n4, c4, p4, k4, d4, rfl, f4_0, hb51⟩
          have hB_1 := hB_0.trans (hb51.mono hB_0.size)
          have qa_1 := qa_0.below hb51
          have qb_1 := qb_0.below hb51
          have qv_1 := qv_0.below hb51
          have hWk_1 := hWk_0.trans (hb51.mono hWk_0.size)
          have f1x_1 := f1x_0.below hb51
          have f1y_1 := f1y_0.below hb51
          have f2x_1 := f2x_0.below hb51
          have f2y_1 := f2y_0.below hb51
          have f3x_1 := f3x_0.below hb51
          have f3y_1 := f3y_0.below hb51
          have pz_1 := pz_0.below hb51
          clear hb51 hB_0 qa_0 qb_0 qv_0 hWk_0 f1x_0 f1y_0 f2x_0 f2y_0 f3x_0 f3y_0 pz_0
          go_wp2_with fail
          refine hK.out _ _ ⟨qa_1.c0, qa_1.c1, qb_1.c0, qb_1.c1, qv_1.c0, qv_1.c1⟩ (fun hHeld => ?_)
          clear hK K
          try simp only [Act.put]
          try simp only [List.setIfInBounds_toArray, List.set_cons_zero, List.set_cons_succ]
          rw [← HWk.out]
          exact stk_4t _ m1x o1x n1x c1x p1x k1x d1x m1y o1y n1y c1y p1y k1y d1y m2x o2x n2x c2x p2x k2x d2x m2y o2y n2y c2y p2y k2y d2y m3x o3x n3x c3x p3x k3x d3x m3y o3y n3y c3y p3y k3y d3y m4 o4 n4 c4 p4 k4 d4 gpz hB_1 qa_1 qb_1 qv_1 hWk_1 f1x_1 f1y_1 f2x_1 f2y_1 f3x_1 f3y_1 f4_0 pz_1 (by omega)
      try simp only [HAk.out, Act.put, List.setIfInBounds_toArray, List.set_cons_zero, List.set_cons_succ] at stk_3t
      have stk_3f : ∀ (w' : World) (m1x : Bool) (o1x : Option Addr) (n1x : Nat) (c1x : Nat) (p1x : Option Addr) (k1x : Nat) (d1x : Nat) (m1y : Bool) (o1y : Option Addr) (n1y : Nat) (c1y : Nat) (p1y : Option Addr) (k1y : Nat) (d1y : Nat) (m2x : Bool) (o2x : Option Addr) (n2x : Nat) (c2x : Nat) (p2x : Option Addr) (k2x : Nat) (d2x : Nat) (m2y : Bool) (o2y : Option Addr) (n2y : Nat) (c2y : Nat) (p2y : Option Addr) (k2y : Nat) (d2y : Nat) (m3x : Bool) (o3x : Option Addr) (n3x : Nat) (c3x : Nat) (p3x : Option Addr) (k3x : Nat) (d3x : Nat) (m3y : Bool) (o3y : Option Addr) (n3y : Nat) (c3y : Nat) (p3y : Option Addr) (k3y : Nat) (d3y : Nat), Below w.heap.size w w' → Box w' (gqa) [.int .i64 a0, .int .i64 a1] → Box w' (gqb) [.int .i64 b0, .int .i64 b1] → Box w' (gqv) [.int .i64 v0, .int .i64 v1] → Below w24.heap.size w24 w' → RF w' (.agg #[.bool m1x, .slice o1x n1x c1x, .slice p1x k1x d1x]) (1) ((a0 : Rat)) → RF w' (.agg #[.bool m1y, .slice o1y n1y c1y, .slice p1y k1y d1y]) (1) ((a1 : Rat)) → RF w' (.agg #[.bool m2x, .slice o2x n2x c2x, .slice p2x k2x d2x]) (1) ((b0 : Rat)) → RF w' (.agg #[.bool m2y, .slice o2y n2y c2y, .slice p2y k2y d2y]) (1) ((b1 : Rat)) → RF w' (.agg #[.bool m3x, .slice o3x n3x c3x, .slice p3x k3x d3x]) (1) ((v0 : Rat)) → RF w' (.agg #[.bool m3y, .slice o3y n3y c3y, .slice p3y k3y d3y]) (1) ((v1 : Rat)) → WWk 21 #[true, true, true, true, true, true, false, false, true, true, true, false, false, false, false, false, false, false, false, false, false, false, false, false, false, false, false, false, false, false] (((ak.put (some 71) (.agg #[.bool m1x, .slice o1x n1x c1x, .slice p1x k1x d1x, .bool m1y, .slice o1y n1y c1y, .slice p1y k1y d1y])).put (some 73) (.agg #[.bool m2x, .slice o2x n2x c2x, .slice p2x k2x d2x, .bool m2y, .slice o2y n2y c2y, .slice p2y k2y d2y])).put (some 75) (.agg #[.bool m3x, .slice o3x n3x c3x, .slice p3x k3x d3x, .bool m3y, .slice o3y n3y c3y, .slice p3y k3y d3y])) w' := by
        intro w52 m1x o1x n1x c1x p1x k1x d1x m1y o1y n1y c1y p1y k1y d1y m2x o2x n2x c2x p2x k2x d2x m2y o2y n2y c2y p2y k2y d2y m3x o3x n3x c3x p3x k3x d3x m3y o3y n3y c3y p3y k3y d3y hB_0 qa_0 qb_0 qv_0 hWk_0 f1x_0 f1y_0 f2x_0 f2y_0 f3x_0 f3y_0
        rw [HWk.out, HAk.out]
        try simp only [Act.put]
        try simp only [List.setIfInBounds_toArray, List.set_cons_zero, List.set_cons_succ]
        refine reg_all1 6 ?_ (by kernel_rfl) ?_ (fun K hK => ?_)
        rotate_left 1
        · simp only [List.getElem?_toArray, List.getElem?_cons_succ, List.getElem?_cons_zero]; exact rfl
        · go_simp
          have hgn : w24.heap.size ≤ w52.heap.size := hWk_0.size
          obtain ⟨w53, hww53, pz_0, hb53, -⟩ := new_box w52 _ rfl [.bool m1x, .slice o1x n1x c1x, .slice p1x k1x d1x, .bool m1y, .slice o1y n1y c1y, .slice p1y k1y d1y, .bool m2x, .slice o2x n2x c2x, .slice p2x k2x d2x, .bool m2y, .slice o2y n2y c2y, .slice p2y k2y d2y, .bool m3x, .slice o3x n3x c3x, .slice p3x k3x d3x, .bool m3y, .slice o3y n3y c3y, .slice p3y k3y d3y] 33
          rw [hww53]
          have hB_1 := hB_0.trans (hb53.mono hB_0.size)
          have qa_1 := qa_0.below hb53
          have qb_1 := qb_0.below hb53
          have qv_1 := qv_0.below hb53
          have hWk_1 := hWk_0.trans (hb53.mono hWk_0.size)
          have f1x_1 := f1x_0.below hb53
          have f1y_1 := f1y_0.below hb53
          have f2x_1 := f2x_0.below hb53
          have f2y_1 := f2y_0.below hb53
          have f3x_1 := f3x_0.below hb53
          have f3y_1 := f3y_0.below hb53
          clear hb53 hB_0 qa_0 qb_0 qv_0 hWk_0 f1x_0 f1y_0 f2x_0 f2y_0 f3x_0 f3y_0
          refine hK.out _ _ ⟨qa_1.c0, qa_1.c1, qb_1.c0, qb_1.c1, qv_1.c0, qv_1.c1⟩ (fun hHeld => ?_)
          clear hK K
          try simp only [Act.put]
          try simp only [List.setIfInBounds_toArray, List.set_cons_zero, List.set_cons_succ]
          rw [← HWk.out]
          exact stk_3t _ m1x o1x n1x c1x p1x k1x d1x m1y o1y n1y c1y p1y k1y d1y m2x o2x n2x c2x p2x k2x d2x m2y o2y n2y c2y p2y k2y d2y m3x o3x n3x c3x p3x k3x d3x m3y o3y n3y c3y p3y k3y d3y w52.heap.size hB_1 qa_1 qb_1 qv_1 hWk_1 f1x_1 f1y_1 f2x_1 f2y_1 f3x_1 f3y_1 pz_0 (by omega)
      try simp only [HAk.out, Act.put, List.setIfInBounds_toArray, List.set_cons_zero, List.set_cons_succ] at stk_3f
      have stk_2f : ∀ (w' : World) (m1x : Bool) (o1x : Option Addr) (n1x : Nat) (c1x : Nat) (p1x : Option Addr) (k1x : Nat) (d1x : Nat) (m1y : Bool) (o1y : Option Addr) (n1y : Nat) (c1y : Nat) (p1y : Option Addr) (k1y : Nat) (d1y : Nat) (m2x : Bool) (o2x : Option Addr) (n2x : Nat) (c2x : Nat) (p2x : Option Addr) (k2x : Nat) (d2x : Nat) (m2y : Bool) (o2y : Option Addr) (n2y : Nat) (c2y : Nat) (p2y : Option Addr) (k2y : Nat) (d2y : Nat), Below w.heap.size w w' → Box w' (gqa) [.int .i64 a0, .int .i64 a1] → Box w' (gqb) [.int .i64 b0, .int .i64 b1] → Box w' (gqv) [.int .i64 v0, .int .i64 v1] → Below w24.heap.size w24 w' → RF w' (.agg #[.bool m1x, .slice o1x n1x c1x, .slice p1x k1x d1x]) (1) ((a0 : Rat)) → RF w' (.agg #[.bool m1y, .slice o1y n1y c1y, .slice p1y k1y d1y]) (1) ((a1 : Rat)) → RF w' (.agg #[.bool m2x, .slice o2x n2x c2x, .slice p2x k2x d2x]) (1) ((b0 : Rat)) → RF w' (.agg #[.bool m2y, .slice o2y n2y c2y, .slice p2y k2y d2y]) (1) ((b1 : Rat)) → WWk 22 #[true, true, true, true, true, false, false, false, true, true, true, false, false, false, false, false, false, false, false, false, false, false, false, false, false, false, false, false, false, false] ((ak.put (some 71) (.agg #[.bool m1x, .slice o1x n1x c1x, .slice p1x k1x d1x, .bool m1y, .slice o1y n1y c1y, .slice p1y k1y d1y])).put (some 73) (.agg #[.bool m2x, .slice o2x n2x c2x, .slice p2x k2x d2x, .bool m2y, .slice o2y n2y c2y, .slice p2y k2y d2y])) w' := by
        intro w54 m1x o1x n1x c1x p1x k1x d1x m1y o1y n1y c1y p1y k1y d1y m2x o2x n2x c2x p2x k2x d2x m2y o2y n2y c2y p2y k2y d2y hB_0 qa_0 qb_0 qv_0 hWk_0 f1x_0 f1y_0 f2x_0 f2y_0
        rw [HWk.out, HAk.out]
        try simp only [Act.put]
        try simp only [List.setIfInBounds_toArray, List.set_cons_zero, List.set_cons_succ]
        refine reg_all1 5 ?_ (by kernel_rfl) ?_ (fun K hK => ?_)
        rotate_left 1
        · simp only [List.getElem?_toArray, List.getElem?_cons_succ, List.getElem?_cons_zero]; exact rfl
        · go_simp
          refine (sOf_any v0 v1 HV0.out HV1.out _).mono ?_
          rintro e w55 ⟨m3x, o3x, n3x, c3x, p3x, k3x, d3x, m3y, o3y, n3y, c3y, p3y, k3y, d3y, rfl, f3x_0, f3y_0, hb55⟩
          have hB_1 := hB_0.trans (hb55.mono hB_0.size)
          have qa_1 := qa_0.below hb55
          have qb_1 := qb_0.below hb55
          have qv_1 := qv_0.below hb55
          have hWk_1 := hWk_0.trans (hb55.mono hWk_0.size)
          have f1x_1 := f1x_0.below hb55
          have f1y_1 := f1y_0.below hb55
          have f2x_1 := f2x_0.below hb55
          have f2y_1 := f2y_0.below hb55
          clear hb55 hB_0 qa_0 qb_0 qv_0 hWk_0 f1x_0 f1y_0 f2x_0 f2y_0
          go_wp2_with fail
          refine hK.out _ _ ⟨qa_1.c0, qa_1.c1, qb_1.c0, qb_1.c1, qv_1.c0, qv_1.c1⟩ (fun hHeld => ?_)
          clear hK K
          try simp only [Act.put]
          try simp only [List.setIfInBounds_toArray, List.set_cons_zero, List.set_cons_succ]
          rw [← HWk.out]
          exact stk_3f _ m1x o1x n1x c1x p1x k1x d1x m1y o1y n1y c1y p1y k1y d1y m2x o2x n2x c2x p2x k2x d2x m2y o2y n2y c2y p2y k2y d2y m3x o3x n3x c3x p3x k3x d3x m3y o3y n3y c3y p3y k3y d3y hB_1 qa_1 qb_1 qv_1 hWk_1 f1x_1 f1y_1 f2x_1 f2y_1 f3x_0 f3y_0
      try simp only [HAk.out, Act.put, List.setIfInBounds_toArray, List.set_cons_zero, List.set_cons_succ] at stk_2f
      have stk_1f : ∀ (w' : World) (m1x : Bool) (o1x : Option Addr) (n1x : Nat) (c1x : Nat) (p1x : Option Addr) (k1x : Nat) (d1x : Nat) (m1y : Bool) (o1y : Option Addr) (n1y : Nat) (c1y : Nat) (p1y : Option Addr) (k1y : Nat) (d1y : Nat), Below w.heap.size w w' → Box w' (gqa) [.int .i64 a0, .int .i64 a1] → Box w' (gqb) [.int .i64 b0, .int .i64 b1] → Box w' (gqv) [.int .i64 v0, .int .i64 v1] → Below w24.heap.size w24 w' → RF w' (.agg #[.bool m1x, .slice o1x n1x c1x, .slice p1x k1x d1x]) (1) ((a0 : Rat)) → RF w' (.agg #[.bool m1y, .slice o1y n1y c1y, .slice p1y k1y d1y]) (1) ((a1 : Rat)) → WWk 23 #[true, true, true, false, true, false, false, false, true, true, true, false, false, false, false, false, false, false, false, false, false, false, false, false, false, false, false, false, false, false] (ak.put (some 71) (.agg #[.bool m1x, .slice o1x n1x c1x, .slice p1x k1x d1x, .bool m1y, .slice o1y n1y c1y, .slice p1y k1y d1y])) w' := by
        intro w56 m1x o1x n1x c1x p1x k1x d1x m1y o1y n1y c1y p1y k1y d1y hB_0 qa_0 qb_0 qv_0 hWk_0 f1x_0 f1y_0
        rw [HWk.out, HAk.out]
        try simp only [Act.put]
        try simp only [List.setIfInBounds_toArray, List.set_cons_zero, List.set_cons_succ]
        refine reg_all1 3 ?_ (by kernel_rfl) ?_ (fun K hK => ?_)
        rotate_left 1
        · simp only [List.getElem?_toArray, List.getElem?_cons_succ, List.getElem?_cons_zero]; exact rfl
        · go_simp
          refine (sOf_any b0 b1 HB0.out HB1.out _).mono ?_
          rintro e w57 ⟨m2x, o2x, n2x, c2x, p2x, k2x, d2x, m2y, o2y, n2y, c2y, p2y, k2y, d2y, rfl, f2x_0, f2y_0, hb57⟩
          have hB_1 := hB_0.trans (hb57.mono hB_0.size)
          have qa_1 := qa_0.below hb57
          have qb_1 := qb_0.below hb57
          have qv_1 := qv_0.below hb57
          have hWk_1 := hWk_0.trans (hb57.mono hWk_0.size)
          have f1x_1 := f1x_0.below hb57
          have f1y_1 := f1y_0.below hb57
          clear hb57 hB_0 qa_0 qb_0 qv_0 hWk_0 f1x_0 f1y_0
          go_wp2_with fail
          refine hK.out _ _ ⟨qa_1.c0, qa_1.c1, qb_1.c0, qb_1.c1, qv_1.c0, qv_1.c1⟩ (fun hHeld => ?_)
          clear hK K
          try simp only [Act.put]
          try simp only [List.setIfInBounds_toArray, List.set_cons_zero, List.set_cons_succ]
          rw [← HWk.out]
          exact stk_2f _ m1x o1x n1x c1x p1x k1x d1x m1y o1y n1y c1y p1y k1y d1y m2x o2x n2x c2x p2x k2x d2x m2y o2y n2y c2y p2y k2y d2y hB_1 qa_1 qb_1 qv_1 hWk_1 f1x_1 f1y_1 f2x_0 f2y_0
      try simp only [HAk.out, Act.put, List.setIfInBounds_toArray, List.set_cons_zero, List.set_cons_succ] at stk_1f
      have stk_0f : ∀ (w' : World), Below w.heap.size w w' → Box w' (gqa) [.int .i64 a0, .int .i64 a1] → Box w' (gqb) [.int .i64 b0, .int .i64 b1] → Box w' (gqv) [.int .i64 v0, .int .i64 v1] → Below w24.heap.size w24 w' → WWk 24 #[true, false, true, false, true, false, false, false, true, true, true, false, false, false, false, false, false, false, false, false, false, false, false, false, false, false, false, false, false, false] ak w' := by
        intro w58 hB_0 qa_0 qb_0 qv_0 hWk_0
        rw [HWk.out, HAk.out]
        try simp only [Act.put]
        try simp only [List.setIfInBounds_toArray, List.set_cons_zero, List.set_cons_succ]
        refine reg_all1 1 ?_ (by kernel_rfl) ?_ (fun K hK => ?_)
        rotate_left 1
        · simp only [List.getElem?_toArray, List.getElem?_cons_succ, List.getElem?_cons_zero]; exact rfl
        · go_simp
          refine (sOf_any a0 a1 HA0.out HA1.out _).mono ?_
          rintro e w59 ⟨m1x, o1x, n1x, c1x, p1x, k1x, d1x, m1y, o1y, n1y, c1y, p1y, k1y, d1y, rfl, f1x_0, f1y_0, hb59⟩
          have hB_1 := hB_0.trans (hb59.mono hB_0.size)
          have qa_1 := qa_0.below hb59
          have qb_1 := qb_0.below hb59
          have qv_1 := qv_0.below hb59
          have hWk_1 := hWk_0.trans (hb59.mono hWk_0.size)
          clear hb59 hB_0 qa_0 qb_0 qv_0 hWk_0
          go_wp2_with fail
          refine hK.out _ _ ⟨qa_1.c0, qa_1.c1, qb_1.c0, qb_1.c1, qv_1.c0, qv_1.c1⟩ (fun hHeld => ?_)
          clear hK K
          try simp only [Act.put]
          try simp only [List.setIfInBounds_toArray, List.set_cons_zero, List.set_cons_succ]
          rw [← HWk.out]
          exact stk_1f _ m1x o1x n1x c1x p1x k1x d1x m1y o1y n1y c1y p1y k1y d1y hB_1 qa_1 qb_1 qv_1 hWk_1 f1x_0 f1y_0
      exact stk_0f _ hB_15 qa_15 qb_15 qv_15 hWk_1
    · right
      refine ⟨?_, fun i hi => ?_⟩
      · clear zF F1 F3 F5 F6 F7 F8 nq6_7 nq6_8 nq7_8
        cases lb1
        · exact ready_of 1 _ rfl rfl (by kernel_rfl)
        cases lb3
        · exact ready_of 3 _ rfl rfl (by kernel_rfl)
        cases lb5
        · exact ready_of 5 _ rfl rfl (by kernel_rfl)
        cases lb6
        · exact ready_of 6 _ rfl rfl (by kernel_rfl)
        cases lb7
        · exact ready_of 7 _ rfl rfl (by kernel_rfl)
        cases lb8
        · exact ready_of 8 _ rfl rfl (by kernel_rfl)
        exact absurd ⟨rfl, rfl, rfl, rfl, rfl, rfl⟩ hL
      have hd : (lb1 = false ∧ i = 1) ∨ (lb3 = false ∧ lb1 = true ∧ i = 3) ∨ (lb5 = false ∧ lb3 = true ∧ i = 5) ∨ (lb6 = false ∧ i = 6) ∨ (lb7 = false ∧ i = 7) ∨ (lb8 = false ∧ i = 8) := by
        have hin := ready_lt hi
        obtain rfl | rfl | rfl | rfl | rfl | rfl | rfl | rfl | rfl | rfl | rfl | rfl : i = 0 ∨ i = 1 ∨ i = 2 ∨ i = 3 ∨ i = 4 ∨ i = 5 ∨ i = 6 ∨ i = 7 ∨ i = 8 ∨ i = 9 ∨ i = 10 ∨ i = 11 := by have hin' : i < 12 := hin; omega
        · exact absurd (ready_off hi) (fun h => Bool.noConfusion (show true = false from h))
        · exact .inl ⟨ready_off hi, rfl⟩
        · exact absurd (ready_off hi) (fun h => Bool.noConfusion (show true = false from h))
        · exact .inr (.inl ⟨ready_off hi, ready_dep (d := 1) hi (by kernel_rfl), rfl⟩)
        · exact absurd (ready_off hi) (fun h => Bool.noConfusion (show true = false from h))
        · exact .inr (.inr (.inl ⟨ready_off hi, ready_dep (d := 3) hi (by kernel_rfl), rfl⟩))
        · exact .inr (.inr (.inr (.inl ⟨ready_off hi, rfl⟩)))
        · exact .inr (.inr (.inr (.inr (.inl ⟨ready_off hi, rfl⟩))))
        · exact .inr (.inr (.inr (.inr (.inr (⟨ready_off hi, rfl⟩)))))
        · have k6 : lb6 = true := ready_dep (d := 6) hi (by kernel_rfl); have k1 : lb1 = true := ready_dep (d := 1) hi (by kernel_rfl); have k5 : lb5 = true := ready_dep (d := 5) hi (by kernel_rfl); have k7 : lb7 = true := ready_dep (d := 7) hi (by kernel_rfl); have k8 : lb8 = true := ready_dep (d := 8) hi (by kernel_rfl)
          have k3 := dp5_3 k5
          exact absurd ⟨k1, k3, k5, k6, k7, k8⟩ hL
        · exact absurd (ready_dep (d := 9) hi (by kernel_rfl)) (fun h => Bool.noConfusion (show false = true from h))
        · exact absurd (ready_dep (d := 10) hi (by kernel_rfl)) (fun h => Bool.noConfusion (show false = true from h))
      clear hi hL
      rcases hd with ⟨rfl, rfl⟩ | ⟨rfl, rfl, rfl⟩ | ⟨rfl, rfl, rfl⟩ | ⟨rfl, rfl⟩ | ⟨rfl, rfl⟩ | ⟨rfl, rfl⟩
      · refine step_of 1 ?_ ?_ (fun K hK => ?_)
        rotate_left 1
        · simp only [List.getElem?_toArray, List.getElem?_cons_succ, List.getElem?_cons_zero]; exact rfl
        rw [HAj.out]
        try simp only [Act.put]
        try simp only [List.setIfInBounds_toArray, List.set_cons_zero, List.set_cons_succ]
        go_simp
        refine (T0.out _).mono ?_
        rintro e w60 ⟨rfl, hb⟩
        go_wp2_with fail
        refine hK.out _ _ (sFj (cFj zF hb)) ?_
        exact (hIVj _ _ _).2 ⟨true, lb3, lb5, lb6, lb7, lb8, (.agg #[.int .i64 a0, .int .i64 a1]), lv3, lv5, lv6, lv7, lv8, gqa, gqb, gqv, rfl, (by simp only [HAj.out, Act.put, List.setIfInBounds_toArray, List.set_cons_zero, List.set_cons_succ]), (cFj zF hb), (fun _ => rfl), (fun h => absurd (dp3_1 h) (by decide)), (fun h => absurd (dp3_1 (dp5_3 h)) (by decide)), (fun h => ⟨(F6 h).1, (F6 h).2.1.below hb, (F6 h).2.2⟩), (fun h => ⟨(F7 h).1, (F7 h).2.1.below hb, (F7 h).2.2⟩), (fun h => ⟨(F8 h).1, (F8 h).2.1.below hb, (F8 h).2.2⟩), (fun _ => rfl), dp5_3, nq6_7, nq6_8, nq7_8⟩
      · obtain rfl := F1 rfl
        clear F1
        refine step_of 3 ?_ ?_ (fun K hK => ?_)
        rotate_left 1
        · simp only [List.getElem?_toArray, List.getElem?_cons_succ, List.getElem?_cons_zero]; exact rfl
        rw [HAj.out]
        try simp only [Act.put]
        try simp only [List.setIfInBounds_toArray, List.set_cons_zero, List.set_cons_succ]
        go_simp
        refine (T1.out _).mono ?_
        rintro e w61 ⟨rfl, hb⟩
        go_wp2_with fail
        refine hK.out _ _ (sFj (cFj zF hb)) ?_
        exact (hIVj _ _ _).2 ⟨true, true, lb5, lb6, lb7, lb8, _, (.agg #[.int .i64 b0, .int .i64 b1]), lv5, lv6, lv7, lv8, gqa, gqb, gqv, rfl, (by simp only [HAj.out, Act.put, List.setIfInBounds_toArray, List.set_cons_zero, List.set_cons_succ]), (cFj zF hb), (fun _ => rfl), (fun _ => rfl), (fun h => absurd (dp5_3 h) (by decide)), (fun h => ⟨(F6 h).1, (F6 h).2.1.below hb, (F6 h).2.2⟩), (fun h => ⟨(F7 h).1, (F7 h).2.1.below hb, (F7 h).2.2⟩), (fun h => ⟨(F8 h).1, (F8 h).2.1.below hb, (F8 h).2.2⟩), (fun _ => rfl), (fun _ => rfl), nq6_7, nq6_8, nq7_8⟩
      · obtain rfl := dp3_1 rfl
        obtain rfl := F1 rfl
        clear F1
        obtain rfl := F3 rfl
        clear F3
        refine step_of 5 ?_ ?_ (fun K hK => ?_)
        rotate_left 1
        · simp only [List.getElem?_toArray, List.getElem?_cons_succ, List.getElem?_cons_zero]; exact rfl
        rw [HAj.out]
        try simp only [Act.put]
        try simp only [List.setIfInBounds_toArray, List.set_cons_zero, List.set_cons_succ]
        go_simp
        refine (T2.out _).mono ?_
        rintro e w62 ⟨rfl, hb⟩
        go_wp2_with fail
        refine hK.out _ _ (sFj (cFj zF hb)) ?_
        exact (hIVj _ _ _).2 ⟨true, true, true, lb6, lb7, lb8, _, _, (.agg #[.int .i64 v0, .int .i64 v1]), lv6, lv7, lv8, gqa, gqb, gqv, rfl, (by simp only [HAj.out, Act.put, List.setIfInBounds_toArray, List.set_cons_zero, List.set_cons_succ]), (cFj zF hb), (fun _ => rfl), (fun _ => rfl), (fun _ => rfl), (fun h => ⟨(F6 h).1, (F6 h).2.1.below hb, (F6 h).2.2⟩), (fun h => ⟨(F7 h).1, (F7 h).2.1.below hb, (F7 h).2.2⟩), (fun h => ⟨(F8 h).1, (F8 h).2.1.below hb, (F8 h).2.2⟩), (fun _ => rfl), (fun _ => rfl), nq6_7, nq6_8, nq7_8⟩
      · refine step_of 6 ?_ ?_ (fun K hK => ?_)
        rotate_left 1
        · simp only [List.getElem?_toArray, List.getElem?_cons_succ, List.getElem?_cons_zero]; exact rfl
        rw [HAj.out]
        try simp only [Act.put]
        try simp only [List.setIfInBounds_toArray, List.set_cons_zero, List.set_cons_succ]
        go_simp
        have hgn := mFj zF
        have hq7 : lb7 = true → gqb < w11.heap.size := fun h => (F7 h).2.1.lt
        have hq8 : lb8 = true → gqv < w11.heap.size := fun h => (F8 h).2.1.lt
        obtain ⟨wn, hwn, qa_0, hb, -⟩ := new_box w11 _ rfl [.int .i64 0, .int .i64 0] 23
        rw [hwn]
        refine hK.out _ _ (sFj (cFj zF hb)) ?_
        exact (hIVj _ _ _).2 ⟨lb1, lb3, lb5, true, lb7, lb8, lv1, lv3, lv5, (.pointer (some ⟨w11.heap.size, 0, none⟩)), lv7, lv8, w11.heap.size, gqb, gqv, rfl, (by simp only [HAj.out, Act.put, List.setIfInBounds_toArray, List.set_cons_zero, List.set_cons_succ]), (cFj zF hb), F1, F3, F5, (fun _ => ⟨rfl, qa_0, hgn⟩), (fun h => ⟨(F7 h).1, (F7 h).2.1.below hb, (F7 h).2.2⟩), (fun h => ⟨(F8 h).1, (F8 h).2.1.below hb, (F8 h).2.2⟩), dp3_1, dp5_3, (fun _ h => by have := hq7 h; omega), (fun _ h => by have := hq8 h; omega), nq7_8⟩
      · refine step_of 7 ?_ ?_ (fun K hK => ?_)
        rotate_left 1
        · simp only [List.getElem?_toArray, List.getElem?_cons_succ, List.getElem?_cons_zero]; exact rfl
        rw [HAj.out]
        try simp only [Act.put]
        try simp only [List.setIfInBounds_toArray, List.set_cons_zero, List.set_cons_succ]
        go_simp
        have hgn := mFj zF
        have hq6 : lb6 = true → gqa < w11.heap.size := fun h => (F6 h).2.1.lt
        have hq8 : lb8 = true → gqv < w11.heap.size := fun h => (F8 h).2.1.lt
        obtain ⟨wn, hwn, qb_0, hb, -⟩ := new_box w11 _ rfl [.int .i64 0, .int .i64 0] 23
        rw [hwn]
        refine hK.out _ _ (sFj (cFj zF hb)) ?_
        exact (hIVj _ _ _).2 ⟨lb1, lb3, lb5, lb6, true, lb8, lv1, lv3, lv5, lv6, (.pointer (some ⟨w11.heap.size, 0, none⟩)), lv8, gqa, w11.heap.size, gqv, rfl, (by simp only [HAj.out, Act.put, List.setIfInBounds_toArray, List.set_cons_zero, List.set_cons_succ]), (cFj zF hb), F1, F3, F5, (fun h => ⟨(F6 h).1, (F6 h).2.1.below hb, (F6 h).2.2⟩), (fun _ => ⟨rfl, qb_0, hgn⟩), (fun h => ⟨(F8 h).1, (F8 h).2.1.below hb, (F8 h).2.2⟩), dp3_1, dp5_3, (fun h _ => by have := hq6 h; omega), nq6_8, (fun _ h => by have := hq8 h; omega)⟩
      · refine step_of 8 ?_ ?_ (fun K hK => ?_)
        rotate_left 1
        · simp only [List.getElem?_toArray, List.getElem?_cons_succ, List.getElem?_cons_zero]; exact rfl
        rw [HAj.out]
        try simp only [Act.put]
        try simp only [List.setIfInBounds_toArray, List.set_cons_zero, List.set_cons_succ]
        go_simp
        have hgn := mFj zF
        have hq6 : lb6 = true → gqa < w11.heap.size := fun h => (F6 h).2.1.lt
        have hq7 : lb7 = true → gqb < w11.heap.size := fun h => (F7 h).2.1.lt
        obtain ⟨wn, hwn, qv_0, hb, -⟩ := new_box w11 _ rfl [.int .i64 0, .int .i64 0] 23
        rw [hwn]
        refine hK.out _ _ (sFj (cFj zF hb)) ?_
        exact (hIVj _ _ _).2 ⟨lb1, lb3, lb5, lb6, lb7, true, lv1, lv3, lv5, lv6, lv7, (.pointer (some ⟨w11.heap.size, 0, none⟩)), gqa, gqb, w11.heap.size, rfl, (by simp only [HAj.out, Act.put, List.setIfInBounds_toArray, List.set_cons_zero, List.set_cons_succ]), (cFj zF hb), F1, F3, F5, (fun h => ⟨(F6 h).1, (F6 h).2.1.below hb, (F6 h).2.2⟩), (fun h => ⟨(F7 h).1, (F7 h).2.1.below hb, (F7 h).2.2⟩), (fun _ => ⟨rfl, qv_0, hgn⟩), dp3_1, dp5_3, nq6_7, (fun h _ => by have := hq6 h; omega), (fun h _ => by have := hq7 h; omega)⟩
  · right
    refine ⟨?_, fun i hi => ?_⟩
    · clear zF F6 F7 F8 nq6_7 nq6_8 nq7_8
      cases lb6
      · exact ready_of 6 _ rfl rfl (by kernel_rfl)
      cases lb7
      · exact ready_of 7 _ rfl rfl (by kernel_rfl)
      cases lb8
      · exact ready_of 8 _ rfl rfl (by kernel_rfl)
      exact absurd ⟨rfl, rfl, rfl⟩ hL
    have hd : (lb6 = false ∧ i = 6) ∨ (lb7 = false ∧ i = 7) ∨ (lb8 = false ∧ i = 8) := by
      have hin := ready_lt hi
      obtain rfl | rfl | rfl | rfl | rfl | rfl | rfl | rfl | rfl | rfl | rfl | rfl : i = 0 ∨ i = 1 ∨ i = 2 ∨ i = 3 ∨ i = 4 ∨ i = 5 ∨ i = 6 ∨ i = 7 ∨ i = 8 ∨ i = 9 ∨ i = 10 ∨ i = 11 := by have hin' : i < 12 := hin; omega
      · exact absurd (ready_off hi) (fun h => Bool.noConfusion (show true = false from h))
      · exact absurd (ready_off hi) (fun h => Bool.noConfusion (show true = false from h))
      · exact absurd (ready_off hi) (fun h => Bool.noConfusion (show true = false from h))
      · exact absurd (ready_off hi) (fun h => Bool.noConfusion (show true = false from h))
      · exact absurd (ready_off hi) (fun h => Bool.noConfusion (show true = false from h))
      · exact absurd (ready_off hi) (fun h => Bool.noConfusion (show true = false from h))
      · exact .inl ⟨ready_off hi, rfl⟩
      · exact .inr (.inl ⟨ready_off hi, rfl⟩)
      · exact .inr (.inr (⟨ready_off hi, rfl⟩))
      · have k6 : lb6 = true := ready_dep (d := 6) hi (by kernel_rfl); have k7 : lb7 = true := ready_dep (d := 7) hi (by kernel_rfl); have k8 : lb8 = true := ready_dep (d := 8) hi (by kernel_rfl)
        exact absurd ⟨k6, k7, k8⟩ hL
      · exact absurd (ready_dep (d := 9) hi (by kernel_rfl)) (fun h => Bool.noConfusion (show false = true from h))
      · exact absurd (ready_dep (d := 10) hi (by kernel_rfl)) (fun h => Bool.noConfusion (show false = true from h))
    clear hi hL
    rcases hd with ⟨rfl, rfl⟩ | ⟨rfl, rfl⟩ | ⟨rfl, rfl⟩
    · refine step_of 6 ?_ ?_ (fun K hK => ?_)
      rotate_left 1
      · simp only [List.getElem?_toArray, List.getElem?_cons_succ, List.getElem?_cons_zero]; exact rfl
      rw [HAi.out]
      try simp only [Act.put]
      try simp only [List.setIfInBounds_toArray, List.set_cons_zero, List.set_cons_succ]
      go_simp
      have hgn := mFi zF
      have hq7 : lb7 = true → gpb < w3.heap.size := fun h => (F7 h).2.1.lt
      have hq8 : lb8 = true → gps < w3.heap.size := fun h => (F8 h).2.1.lt
      obtain ⟨wn, hwn, pa_0, hb, -⟩ := new_box w3 _ rfl [.int .i64 0, .int .i64 0] 23
      rw [hwn]
      refine hK.out _ _ (sFi (cFi zF hb)) ?_
      exact (hIVi _ _ _).2 ⟨true, lb7, lb8, (.pointer (some ⟨w3.heap.size, 0, none⟩)), lv7, lv8, w3.heap.size, gpb, gps, rfl, (by simp only [HAi.out, Act.put, List.setIfInBounds_toArray, List.set_cons_zero, List.set_cons_succ]), (cFi zF hb), (fun _ => ⟨rfl, pa_0, hgn⟩), (fun h => ⟨(F7 h).1, (F7 h).2.1.below hb, (F7 h).2.2⟩), (fun h => ⟨(F8 h).1, (F8 h).2.1.below hb, (F8 h).2.2⟩), (fun _ h => by have := hq7 h; omega), (fun _ h => by have := hq8 h; omega), nq7_8⟩
    · refine step_of 7 ?_ ?_ (fun K hK => ?_)
      rotate_left 1
      · simp only [List.getElem?_toArray, List.getElem?_cons_succ, List.getElem?_cons_zero]; exact rfl
      rw [HAi.out]
      try simp only [Act.put]
      try simp only [List.setIfInBounds_toArray, List.set_cons_zero, List.set_cons_succ]
      go_simp
      have hgn := mFi zF
      have hq6 : lb6 = true → gpa < w3.heap.size := fun h => (F6 h).2.1.lt
      have hq8 : lb8 = true → gps < w3.heap.size := fun h => (F8 h).2.1.lt
      obtain ⟨wn, hwn, pb_0, hb, -⟩ := new_box w3 _ rfl [.int .i64 0, .int .i64 0] 23
      rw [hwn]
      refine hK.out _ _ (sFi (cFi zF hb)) ?_
      exact (hIVi _ _ _).2 ⟨lb6, true, lb8, lv6, (.pointer (some ⟨w3.heap.size, 0, none⟩)), lv8, gpa, w3.heap.size, gps, rfl, (by simp only [HAi.out, Act.put, List.setIfInBounds_toArray, List.set_cons_zero, List.set_cons_succ]), (cFi zF hb), (fun h => ⟨(F6 h).1, (F6 h).2.1.below hb, (F6 h).2.2⟩), (fun _ => ⟨rfl, pb_0, hgn⟩), (fun h => ⟨(F8 h).1, (F8 h).2.1.below hb, (F8 h).2.2⟩), (fun h _ => by have := hq6 h; omega), nq6_8, (fun _ h => by have := hq8 h; omega)⟩
    · refine step_of 8 ?_ ?_ (fun K hK => ?_)
      rotate_left 1
      · simp only [List.getElem?_toArray, List.getElem?_cons_succ, List.getElem?_cons_zero]; exact rfl
      rw [HAi.out]
      try simp only [Act.put]
      try simp only [List.setIfInBounds_toArray, List.set_cons_zero, List.set_cons_succ]
      go_simp
      have hgn := mFi zF
      have hq6 : lb6 = true → gpa < w3.heap.size := fun h => (F6 h).2.1.lt
      have hq7 : lb7 = true → gpb < w3.heap.size := fun h => (F7 h).2.1.lt
      obtain ⟨wn, hwn, ps_0, hb, -⟩ := new_box w3 _ rfl [.int .i64 0, .int .i64 0] 23
      rw [hwn]
      refine hK.out _ _ (sFi (cFi zF hb)) ?_
      exact (hIVi _ _ _).2 ⟨lb6, lb7, true, lv6, lv7, (.pointer (some ⟨w3.heap.size, 0, none⟩)), gpa, gpb, w3.heap.size, rfl, (by simp only [HAi.out, Act.put, List.setIfInBounds_toArray, List.set_cons_zero, List.set_cons_succ]), (cFi zF hb), (fun h => ⟨(F6 h).1, (F6 h).2.1.below hb, (F6 h).2.2⟩), (fun h => ⟨(F7 h).1, (F7 h).2.1.below hb, (F7 h).2.2⟩), (fun _ => ⟨rfl, ps_0, hgn⟩), nq6_7, (fun h _ => by have := hq6 h; omega), (fun h _ => by have := hq7 h; omega)⟩
end Go.Proofs.Ytkcfaddilknelaa
/- The statement SpotSides: for all inputs. -/
namespace Go.Proofs.Ytkcfaddilknelaa
open Go.RowKit Go.MagM
theorem SpotSides_walk (x0 x1 y0 y1 z0 z1 : Int) (n : Int) (w : World) (_ : -9223372036854775808 ≤ n) (_ : n < 9223372036854775808) : Calls Try.prog 6 #[.agg #[.int .i64 x0, .int .i64 x1, .int .i64 y0, .int .i64 y1, .int .i64 z0, .int .i64 z1], .int .i64 n] w fun e w' => e = .returned (.bool true) ∧ Below w.heap.size w w' := by
  obtain ⟨y, h0, h1, e⟩ := sand_mask n 255 (by omega)
  refine SpotSides_w x0 x1 y0 y1 z0 z1 (tame x0) (tame x1) (tame y0) (tame y1) (tame z0) (tame z1) n (1 + y) _ _ (fun w => Tame_any x0 x1 w) (fun w => Tame_any y0 y1 w) (fun w => Tame_any z0 z1 w) (tame_in x0) (tame_in x1) (tame_in y0) (tame_in y1) (tame_in z0) (tame_in z1) ⟨?_, ?_⟩ (by omega) (by omega) rfl rfl w
  · rw [show 1 + y - 1 = y by omega]; exact e
  · rw [IntKind.wrap_i64]; omega
end Go.Proofs.Ytkcfaddilknelaa
