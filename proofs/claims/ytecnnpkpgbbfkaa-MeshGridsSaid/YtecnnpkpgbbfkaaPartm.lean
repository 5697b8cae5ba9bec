/- Maps that a call makes: whatever their elements are (ints, structs): look-up, store, delete, range. Over any program; written ahead of layer 9's code. -/
import Derived.Test.YtecnnpkpgbbfkaaParti
import Derived.Maps.Keyed
import Derived.Maps.RangeRun
import Derived.Test.YtecnnpkpgbbfkaaPartf
import Derived.StillTailTactics
import Derived.Test.YtecnnpkpgbbfkaaPartk
namespace Go.MagM
open Go.RowKit Go.Maps
open Go.ChangeMaps (setBlock)
section
variable {P : Program}
/-- But for block b the world w' is as w was. -/
structure Turned (w w' : World) (b : Nat) : Prop where
 os : w'.os = w.os
 tape : w'.tape = w.tape
 output : w'.output = w.output
 size : w'.heap.size = w.heap.size
 block : ∀ i, i ≠ b → w'.heap[i]? = w.heap[i]?
theorem Turned.refl (w : World) (b : Nat) : Turned w w b := ⟨rfl, rfl, rfl, rfl, fun _ _ => rfl⟩
theorem Turned.below {w w' : World} {b B : Nat} (h : Turned w w' b) (hB : B ≤ b) : Below B w w' := ⟨h.os, h.tape, h.output, by rw [h.size]; exact Nat.le_refl _, fun k hk => h.block k (by omega)⟩
theorem Below.turned {a w w' : World} {b B : Nat} (h : Below B a w) (ht : Turned w w' b) (hB : B ≤ b) : Below B a w' := h.trans (ht.below hB)
theorem Box.turned {w w' : World} {g b : Nat} {vs : List Value} (h : Box w g vs) (ht : Turned w w' b) (hne : g ≠ b) : Box w' g vs := by
 have e := ht.block g hne
 exact ⟨fun i x hi => (World.cell?_of_block (a := ⟨g, i, none⟩) e).trans (h.c i x hi), fun i x hi => (World.frozen?_of_block (a := ⟨g, i, none⟩) e).trans (h.f i x hi)⟩
theorem RowN.turned {w w' : World} {b base : Nat} {e : TypeId} {size : Nat} {v : Value} {n : Nat} {xs : List Value} (h : RowN w base e size v n xs) (ht : Turned w w' b) (hne : ∀ k, v.ownBlock = some k → k ≠ b) : RowN w' base e size v n xs :=
 h.block fun k hk _ => ht.block k (hne k hk)
/-- Where a map lies no cell is read. -/
theorem Kept.turned {w w' : World} {b : Nat} {es : Array MapEntry} {clock : Nat} (hb : w.heap[b]? = some (.map es clock)) (ht : Turned w w' b) : Kept w w' := by
 intro a x h
 have hne : a.block ≠ b := by
  intro e
  unfold World.cell? at h
  rw [e, hb] at h
  simp at h
 rw [World.cell?_of_block (w := w) (a := a) (ht.block _ hne)]; exact h
theorem turned_set {w : World} {b : Nat} {o : Obj} (h : b < w.heap.size) : Turned w (setBlock w b o) b ∧ (setBlock w b o).heap[b]? = some o := by
 refine ⟨⟨rfl, rfl, rfl, by simp [setBlock], fun i hi => ?_⟩, ?_⟩
 ·simp [setBlock, Ne.symm hi]
 ·simp [setBlock, h]
/-- Block b holds a map of these entries, in the order in which they came. -/
structure MapB (P : Program) (k : TypeId) (w : World) (b : Nat) (m : List (Value × Value)) : Prop where
 at_ : ∃ es clock, w.heap[b]? = some (.map es clock) ∧ es.toList.map (fun e => (e.key, e.val)) = m ∧ (∀ e ∈ es.toList, e.born < clock) ∧ (es.toList.map (·.born)).Nodup
 keys : ∀ p ∈ m, ∃ l, keyOf P k p.1 = some l
 once : (m.map (·.1)).Nodup
theorem MapB.lt {k : TypeId} {w : World} {b : Nat} {m : List (Value × Value)} (h : MapB P k w b m) : b < w.heap.size := by
 obtain ⟨es, clock, h1, _⟩ := h.at_
 exact (Array.getElem?_eq_some_iff.1 h1).1
theorem MapB.block {k : TypeId} {w w' : World} {b : Nat} {m : List (Value × Value)} (h : MapB P k w b m) (e : w'.heap[b]? = w.heap[b]?) : MapB P k w' b m := by
 obtain ⟨es, clock, h1, h2⟩ := h.at_
 exact ⟨⟨es, clock, e.trans h1, h2⟩, h.keys, h.once⟩
theorem MapB.below {k : TypeId} {w w' : World} {b : Nat} {m : List (Value × Value)} (h : MapB P k w b m) (hb : Below w.heap.size w w') : MapB P k w' b m := h.block (hb.block b h.lt)
theorem MapB.drew {k : TypeId} {w : World} {b : Nat} {m : List (Value × Value)} (h : MapB P k w b m) : MapB P k w.drew b m := h.block rfl
theorem MapB.turned {k : TypeId} {w w' : World} {b c : Nat} {m : List (Value × Value)} (h : MapB P k w b m) (ht : Turned w w' c) (hne : b ≠ c) : MapB P k w' b m := h.block (ht.block b hne)
theorem MapB.kept {k : TypeId} {w w' : World} {b : Nat} {m : List (Value × Value)} (h : MapB P k w b m) (ht : Turned w w' b) : Kept w w' := by
 obtain ⟨es, clock, h1, _⟩ := h.at_
 exact Kept.turned h1 ht
/-- A new map. -/
theorem run_new_map (w : World) (t : TypeId) (k : TypeId) : (Instr.makeMap t none).run P w = .ok (.map (some w.heap.size)) (w.alloc (.map #[] 0)) ∧ MapB P k (w.alloc (.map #[] 0)) w.heap.size [] := by
 refine ⟨?_, ⟨⟨#[], 0, heap_alloc_new w _, rfl, by simp, by simp⟩, by simp, by simp⟩⟩
 simp [Instr.makeMap, newObj, Sem.run, Result.andThen]
section
variable {t k e : TypeId} {w : World} {b : Nat} {m : List (Value × Value)}
theorem MapB.es_keys {es : Array MapEntry} (h : MapB P k w b m) (he : es.toList.map (fun e => (e.key, e.val)) = m) : ∀ x ∈ es.toList, ∃ l, keyOf P k x.key = some l := fun x hx => by
 obtain ⟨l, hl⟩ := h.keys (x.key, x.val) (by rw [← he]; exact List.mem_map_of_mem hx)
 exact ⟨l, hl⟩
/-- m[x], with or without ok. -/
theorem MapB.look (K : Keyed P k) (ht : P.underlying t = some (.map k e)) (h : MapB P k w b m) {x : Value} {lx : Lit} (hkey : keyOf P k x = some lx) {z : Value} (hz : (zeroValue e).run P w = .ok z w) (ok : Bool) :
  (∃ v, (x, v) ∈ m ∧ (Instr.lookup t (.map (some b)) x ok).run P w = .ok (if ok then .tuple #[v, .bool true] else v) w) ∨
  ((∀ v, (x, v) ∉ m) ∧ (Instr.lookup t (.map (some b)) x ok).run P w = .ok (if ok then .tuple #[z, .bool false] else z) w) := by
 obtain ⟨es, clock, hb, he, _, _⟩ := h.at_
 rcases K.find w hkey es.toList (h.es_keys he) with ⟨h1, h2⟩ | ⟨j, e0, h1, h2, h3⟩
 ·refine .inr ⟨fun v hv => ?_, ?_⟩
  ·rw [← he] at hv
   obtain ⟨y, hy, e1⟩ := List.mem_map.1 hv
   exact h2 y hy (congrArg Prod.fst e1)
  ·simp [Instr.lookup, run_underlying ht, MapKept.run_getObj_map hb, K.check w _ hkey, h1, hz, Result.andThen]
 ·refine .inl ⟨e0.val, ?_, ?_⟩
  ·rw [← he, ← h3]; exact List.mem_map_of_mem (List.mem_of_getElem? h2)
  ·simp [Instr.lookup, run_underlying ht, MapKept.run_getObj_map hb, K.check w _ hkey, h1, Result.andThen]
/-- m[x] = v. -/
theorem MapB.store (K : Keyed P k) (ht : P.underlying t = some (.map k e)) (h : MapB P k w b m) {x : Value} {lx : Lit} (hkey : keyOf P k x = some lx) (v : Value) :
  ∃ w' m', (Instr.mapUpdate t (.map (some b)) x v).run P w = .ok () w' ∧ Turned w w' b ∧ MapB P k w' b m' ∧
   (((∀ u, (x, u) ∉ m) ∧ m' = m ++ [(x, v)]) ∨ ∃ j u, m[j]? = some (x, u) ∧ m' = m.set j (x, v)) := by
 obtain ⟨es, clock, hb, he, hc, hn⟩ := h.at_
 have hlt := h.lt
 rcases K.find w hkey es.toList (h.es_keys he) with ⟨h1, h2⟩ | ⟨j, e0, h1, h2, h3⟩
 ·have hno : ∀ u, (x, u) ∉ m := fun u hu => by
   rw [← he] at hu
   obtain ⟨y, hy, e1⟩ := List.mem_map.1 hu
   exact h2 y hy (congrArg Prod.fst e1)
  obtain ⟨t1, t2⟩ := turned_set (w := w) (o := .map (es.push ⟨x, v, clock⟩) (clock + 1)) hlt
  refine ⟨setBlock w b (.map (es.push ⟨x, v, clock⟩) (clock + 1)), m ++ [(x, v)], ?_, t1, ⟨⟨_, _, t2, ?_, ?_, ?_⟩, ?_, ?_⟩, .inl ⟨hno, rfl⟩⟩
  ·simp [Instr.mapUpdate, run_underlying ht, MapKept.run_getObj_map hb, K.check w false hkey, h1, MapKept.run_setObj_map _ hb, Result.andThen, setBlock]
  ·rw [Array.toList_push, List.map_append, he]; rfl
  ·intro y hy
   rw [Array.toList_push] at hy
   rcases List.mem_append.1 hy with hy | hy
   ·have := hc y hy; omega
   ·simp at hy; subst hy; simp
  ·rw [Array.toList_push, List.map_append, List.nodup_append]
   refine ⟨hn, by simp, fun p hp q hq e1 => ?_⟩
   obtain ⟨y, hy, rfl⟩ := List.mem_map.1 hp
   have := hc y hy
   simp at hq; subst hq; omega
  ·intro p hp
   rcases List.mem_append.1 hp with hp | hp
   ·exact h.keys p hp
   ·simp at hp; subst hp; exact ⟨lx, hkey⟩
  ·rw [List.map_append, List.nodup_append]
   refine ⟨h.once, by simp, fun p hp q hq e1 => ?_⟩
   obtain ⟨⟨y1, y2⟩, hy, rfl⟩ := List.mem_map.1 hp
   simp at hq; subst hq
   simp only [] at e1; subst e1
   exact hno _ hy
 ·have hj : es[j]? = some e0 := by simpa using h2
  have hmj : m[j]? = some (x, e0.val) := by rw [← he, List.getElem?_map, h2, ← h3]; rfl
  have hlist : (es.modify j (fun e' => { e' with key := x, val := v })).toList = es.toList.set j { e0 with key := x, val := v } := by rw [Array.toList_modify, ChangeMaps.modify_eq_set _ _ _ _ h2]
  obtain ⟨t1, t2⟩ := turned_set (w := w) (o := .map (es.modify j (fun e' => { e' with key := x, val := v })) clock) hlt
  refine ⟨setBlock w b (.map (es.modify j (fun e' => { e' with key := x, val := v })) clock), m.set j (x, v), ?_, t1, ⟨⟨_, _, t2, ?_, ?_, ?_⟩, ?_, ?_⟩, .inr ⟨j, _, hmj, rfl⟩⟩
  ·simp [Instr.mapUpdate, run_underlying ht, MapKept.run_getObj_map hb, K.check w false hkey, h1, hj, h3, K.stays w hkey, MapKept.run_setObj_map _ hb, Result.andThen, setBlock]
  ·rw [hlist, List.map_set, he]
  ·intro y hy
   rw [hlist] at hy
   rcases List.mem_or_eq_of_mem_set hy with hy | hy
   ·exact hc y hy
   ·subst hy; exact hc e0 (List.mem_of_getElem? h2)
  ·rw [hlist, List.map_set]
   have : (es.toList.map (·.born)).set j e0.born = es.toList.map (·.born) := by
    refine List.ext_getElem? fun i => ?_
    rw [List.getElem?_set]
    split
    ·rename_i hij; subst hij
     have hj' := (List.getElem?_eq_some_iff.1 h2).1
     rw [List.getElem?_map, h2]; simp; exact (List.getElem?_eq_some_iff.1 h2).1
    ·rfl
   rw [this]; exact hn
  ·intro p hp
   rcases List.mem_or_eq_of_mem_set hp with hp | hp
   ·exact h.keys p hp
   ·subst hp; exact ⟨lx, hkey⟩
  ·rw [List.map_set]
   have : (m.map (·.1)).set j x = m.map (·.1) := by
    refine List.ext_getElem? fun i => ?_
    rw [List.getElem?_set]
    split
    ·rename_i hij; subst hij
     rw [List.getElem?_map, hmj]; simp; exact (List.getElem?_eq_some_iff.1 hmj).1
    ·rfl
   rw [this]; exact h.once
/-- delete(m, x). -/
theorem MapB.drop (K : Keyed P k) (ht : P.underlying t = some (.map k e)) (h : MapB P k w b m) {x : Value} {lx : Lit} (hkey : keyOf P k x = some lx) (ty : TypeId) :
  ∃ w' m', (Builtin.delete_ #[t, k] ty #[.map (some b), x]).run P w = .ok (.tuple #[]) w' ∧ Turned w w' b ∧ MapB P k w' b m' ∧
   (((∀ u, (x, u) ∉ m) ∧ m' = m) ∨ ∃ j u, m[j]? = some (x, u) ∧ m' = m.eraseIdx j) := by
 obtain ⟨es, clock, hb, he, hc, hn⟩ := h.at_
 have hlt := h.lt
 rcases K.find w hkey es.toList (h.es_keys he) with ⟨h1, h2⟩ | ⟨j, e0, h1, h2, h3⟩
 ·have hno : ∀ u, (x, u) ∉ m := fun u hu => by
   rw [← he] at hu
   obtain ⟨y, hy, e1⟩ := List.mem_map.1 hu
   exact h2 y hy (congrArg Prod.fst e1)
  obtain ⟨t1, t2⟩ := turned_set (w := w) (o := .map es clock) hlt
  refine ⟨setBlock w b (.map es clock), m, ?_, t1, ⟨⟨_, _, t2, he, hc, hn⟩, h.keys, h.once⟩, .inl ⟨hno, rfl⟩⟩
  simp [Builtin.delete_, run_underlying ht, MapKept.run_getObj_map hb, K.check w _ hkey, h1, MapKept.run_setObj_map _ hb, Result.andThen, setBlock]
 ·have hmj : m[j]? = some (x, e0.val) := by rw [← he, List.getElem?_map, h2, ← h3]; rfl
  have hjs : j < es.size := by have := (List.getElem?_eq_some_iff.1 h2).1; simpa using this
  have hsub : (es.eraseIdxIfInBounds j).toList = es.toList.eraseIdx j := by
   unfold Array.eraseIdxIfInBounds
   rw [dif_pos hjs]
   simp
  obtain ⟨t1, t2⟩ := turned_set (w := w) (o := .map (es.eraseIdxIfInBounds j) clock) hlt
  refine ⟨setBlock w b (.map (es.eraseIdxIfInBounds j) clock), m.eraseIdx j, ?_, t1, ⟨⟨_, _, t2, ?_, ?_, ?_⟩, ?_, ?_⟩, .inr ⟨j, _, hmj, rfl⟩⟩
  ·simp [Builtin.delete_, run_underlying ht, MapKept.run_getObj_map hb, K.check w _ hkey, h1, MapKept.run_setObj_map _ hb, Result.andThen, setBlock]
  ·rw [hsub, ← he, ChangeMaps.map_eraseIdx]
  ·intro y hy
   rw [hsub] at hy
   exact hc y ((List.eraseIdx_sublist _ _).subset hy)
  ·rw [hsub, ChangeMaps.map_eraseIdx]
   exact hn.sublist (List.eraseIdx_sublist _ _)
  ·intro p hp
   exact h.keys p ((List.eraseIdx_sublist _ _).subset hp)
  ·rw [ChangeMaps.map_eraseIdx]
   exact h.once.sublist (List.eraseIdx_sublist _ _)
/-- The iterator in block r goes over the map in block b; these entries have not been handed out yet. -/
structure IterB (w : World) (r b : Nat) (m rest : List (Value × Value)) : Prop where
 at_ : ∃ es clock since seen c0, w.heap[r]? = some (.mapIter (some b) since seen c0) ∧ w.heap[b]? = some (.map es clock) ∧ es.toList.map (fun e => (e.key, e.val)) = m ∧ (∀ e ∈ es.toList, e.born < since) ∧ since ≤ c0 ∧ since ≤ clock ∧ (es.toList.map (·.born)).Nodup ∧
  (leftOf es seen).toList.map (fun e => (e.key, e.val)) = rest
theorem IterB.block {w w' : World} {r b : Nat} {m rest : List (Value × Value)} (h : IterB w r b m rest) (hr : w'.heap[r]? = w.heap[r]?) (hb : w'.heap[b]? = w.heap[b]?) : IterB w' r b m rest := by
 obtain ⟨es, clock, since, seen, c0, h1, h2, h3⟩ := h.at_
 exact ⟨⟨es, clock, since, seen, c0, hr.trans h1, hb.trans h2, h3⟩⟩
theorem IterB.below {w w' : World} {r b : Nat} {m rest : List (Value × Value)} (h : IterB w r b m rest) (hb : Below w.heap.size w w') : IterB w' r b m rest := by
 obtain ⟨es, clock, since, seen, c0, h1, h2, _⟩ := h.at_
 exact h.block (hb.block r (Array.getElem?_eq_some_iff.1 h1).1) (hb.block b (Array.getElem?_eq_some_iff.1 h2).1)
theorem IterB.drew {w : World} {r b : Nat} {m rest : List (Value × Value)} (h : IterB w r b m rest) : IterB w.drew r b m rest := h.block rfl rfl
theorem IterB.turned {w w' : World} {r b c : Nat} {m rest : List (Value × Value)} (h : IterB w r b m rest) (ht : Turned w w' c) (hr : r ≠ c) (hb : b ≠ c) : IterB w' r b m rest := h.block (ht.block r hr) (ht.block b hb)
/-- for .. := range m: the iterator. -/
theorem MapB.range (ht : P.underlying t = some (.map k e)) (h : MapB P k w b m) : ∃ w', (Instr.range t (.map (some b))).run P w = .ok (.pointer (some ⟨w.heap.size, 0, none⟩)) w' ∧ IterB w' w.heap.size b m m ∧ Below w.heap.size w w' ∧ w'.heap.size = w.heap.size + 1 := by
 obtain ⟨es, clock, hb, he, hc, hn⟩ := h.at_
 have hlt := h.lt
 refine ⟨_, run_range_map w t k e b es clock ht hb, ⟨⟨es, clock, clock, #[], clock, heap_alloc_new w _, by rw [heap_alloc_old w _ hlt, hb], he, hc, Nat.le_refl _, Nat.le_refl _, hn, ?_⟩⟩, (Below.refl _ _).alloc (Nat.le_refl _) _, by simp⟩
 have : leftOf es #[] = es := by
  unfold leftOf
  exact Array.filter_eq_self.2 (fun x hx => by simp)
 rw [this]; exact he
theorem erase_born (L : List MapEntry) (x : MapEntry) (hn : (L.map (·.born)).Nodup) : ∀ i, L[i]? = some x → L.filter (fun y => !(y.born == x.born)) = L.eraseIdx i := by
 induction L with
 | nil => intro i h; simp at h
 | cons y t ih =>
  intro i h
  have hn' := List.nodup_cons.1 hn
  cases i with
  | zero =>
   simp at h; subst h
   rw [List.filter_cons_of_neg (by simp), List.eraseIdx_cons_zero]
   refine List.filter_eq_self.2 fun z hz => ?_
   have : z.born ≠ y.born := fun e => hn'.1 (List.mem_map.2 ⟨z, hz, e⟩)
   simp [this]
  | succ j =>
   have hj : t[j]? = some x := by simpa using h
   have : y.born ≠ x.born := fun e => hn'.1 (List.mem_map.2 ⟨x, List.mem_of_getElem? hj, e.symm⟩)
   rw [List.filter_cons_of_pos (by simp [this]), List.eraseIdx_cons_succ, ih hn'.2 j hj]
theorem left_push (es : Array MapEntry) (seen : Array Nat) (x : MapEntry) (hn : (es.toList.map (·.born)).Nodup) {i : Nat} (hi : (leftOf es seen).toList[i]? = some x) : (leftOf es (seen.push x.born)).toList = (leftOf es seen).toList.eraseIdx i := by
 have hn2 : ((leftOf es seen).toList.map (·.born)).Nodup := by
  refine hn.sublist (List.Sublist.map _ ?_)
  unfold leftOf; rw [Array.toList_filter]; exact List.filter_sublist
 rw [← erase_born _ x hn2 i hi]
 unfold leftOf
 rw [Array.toList_filter, Array.toList_filter, List.filter_filter]
 refine List.filter_congr fun y _ => ?_
 rw [contains_push]
 cases seen.contains y.born <;> simp
/-- One step: nothing is left; or one of those that are left comes, whichever. -/
theorem IterB.next {r : Nat} {rest : List (Value × Value)} (h : IterB w r b m rest) (ty : TypeId) :
  (rest = [] ∧ (Instr.next (.pointer (some ⟨r, 0, none⟩)) false ty).run P w = .ok (.tuple #[.bool false]) w) ∨
  ∃ i x v w', rest[i]? = some (x, v) ∧ (Instr.next (.pointer (some ⟨r, 0, none⟩)) false ty).run P w = .ok (.tuple #[.bool true, x, v]) w' ∧ IterB w' r b m (rest.eraseIdx i) ∧ Turned w w' r ∧
   ∀ w2 : World, w2.heap[r]? = w'.heap[r]? → w2.heap[b]? = w'.heap[b]? → (Instr.entry (.pointer (some ⟨r, 0, none⟩))).run P w2 = .ok (.tuple #[x, v]) w2 := by
 obtain ⟨es, clock, since, seen, c0, h1, h2, h3, h4, h5, h6, h7, h8⟩ := h.at_
 have hlt := (Array.getElem?_eq_some_iff.1 h1).1
 have hne : b ≠ r := by intro e; rw [e, h1] at h2; simp at h2
 rcases run_next_at (P := P) w ty r b since c0 seen es clock h1 h2 h4 h5 with ⟨g1, g2⟩ | ⟨x, g1, w1, g2, g3⟩
 ·refine .inl ⟨?_, g2⟩
  rw [← h8]
  have : (leftOf es seen).toList = [] := List.eq_nil_of_length_eq_zero (by simpa using g1)
  rw [this]; rfl
 ·obtain ⟨i, hi, hix⟩ := List.mem_iff_getElem.1 g1
  have hi? : (leftOf es seen).toList[i]? = some x := by rw [List.getElem?_eq_getElem hi, hix]
  have hw1 : w1.heap = w.heap := by rcases g2 with rfl | rfl <;> rfl
  have hlt1 : r < w1.heap.size := by rw [hw1]; exact hlt
  obtain ⟨t1, t2⟩ := turned_set (w := w1) (o := .mapIter (some b) since (seen.push x.born) clock) hlt1
  have hT : Turned w (setBlock w1 r (.mapIter (some b) since (seen.push x.born) clock)) r := by
   rcases g2 with rfl | rfl
   ·exact t1
   ·exact ⟨t1.os, t1.tape, t1.output, t1.size, t1.block⟩
  have hb' : (setBlock w1 r (.mapIter (some b) since (seen.push x.born) clock)).heap[b]? = some (.map es clock) := by rw [hT.block b hne, h2]
  refine .inr ⟨i, x.key, x.val, _, ?_, g3, ⟨⟨es, clock, since, seen.push x.born, clock, t2, hb', h3, h4, h6, h6, h7, ?_⟩⟩, hT, fun w2 e1 e2 => ?_⟩
  ·rw [← h8, List.getElem?_map, hi?]; rfl
  ·rw [left_push es seen x h7 hi?, ChangeMaps.map_eraseIdx, h8]
  ·have hm : x ∈ es.toList := (mem_left g1).1
   exact run_entry_at w2 r b since seen es clock x (e1.trans t2) (e2.trans hb') hm h7
end
end
end Go.MagM
/- slices.Reverse, Min over ints. -/
namespace Go.MagM
open Go.RowKit
theorem Turned.setCell {w w' : World} {b : Nat} (h : Turned w w' b) (i : Nat) (v : Value) : Turned w (w'.setCell ⟨b, i, none⟩ v) b := by
 refine ⟨h.os, h.tape, h.output, by simp [World.setCell, h.size], fun k hk => ?_⟩
 rw [← h.block k hk]
 simp only [World.setCell, Array.getElem?_modify]
 rw [if_neg (Ne.symm hk)]
theorem Turned.drew {w w' : World} {b : Nat} (h : Turned w w' b) : Turned w w'.drew b := ⟨h.os, h.tape, h.output, h.size, h.block⟩
/-- A row after k swaps. -/
def Swapped (vs us : List Value) (k : Nat) : Prop := us.length = vs.length ∧ ∀ x, x < vs.length → us[x]? = if x < k ∨ vs.length - k ≤ x then vs[vs.length - 1 - x]? else vs[x]?
theorem Swapped.start (vs : List Value) : Swapped vs vs 0 := ⟨rfl, fun x hx => by rw [if_neg (by omega)]⟩
theorem Swapped.next {vs us : List Value} {k : Nat} (h : Swapped vs us k) (hk : 2 * k + 1 < vs.length) {a b : Value} (ha : vs[k]? = some a) (hb : vs[vs.length - 1 - k]? = some b) : Swapped vs ((us.set k b).set (vs.length - 1 - k) a) (k + 1) := by
 refine ⟨by rw [List.length_set, List.length_set]; exact h.1, fun x hx => ?_⟩
 rw [List.getElem?_set, List.length_set, List.getElem?_set, h.1]
 by_cases h1 : vs.length - 1 - k = x
 ·subst h1
  rw [if_pos rfl, if_pos (by omega), if_pos (by omega)]
  rw [show vs.length - 1 - (vs.length - 1 - k) = k by omega]; exact ha.symm
 ·rw [if_neg h1]
  by_cases h2 : k = x
  ·subst h2
   rw [if_pos rfl, if_pos (by omega), if_pos (by omega)]; exact hb.symm
  ·rw [if_neg h2, h.2 x hx]
   by_cases h3 : x < k ∨ vs.length - k ≤ x
   ·rw [if_pos h3, if_pos (by omega)]
   ·rw [if_neg h3, if_neg (by omega)]
theorem Swapped.done {vs us : List Value} {k : Nat} (h : Swapped vs us k) (hk : vs.length ≤ 2 * k + 1) : us = vs.reverse := by
 refine List.ext_getElem? fun x => ?_
 by_cases hx : x < vs.length
 ·rw [h.2 x hx, List.getElem?_reverse hx]
  by_cases h3 : x < k ∨ vs.length - k ≤ x
  ·rw [if_pos h3]
  ·rw [if_neg h3, show vs.length - 1 - x = x by omega]
 ·rw [List.getElem?_eq_none (by rw [h.1]; omega), List.getElem?_eq_none (by simp; omega)]
end Go.MagM
namespace Go.Proofs.Ytecnnpkpgbbfkaa
open Go.RowKit Go.MagM
set_option maxRecDepth 100000 in
set_option maxHeartbeats 8000000 in
theorem reverse_any (g n c : Nat) (zs : List Int) (w : World) (hn : zs.length = n) (h0 : 0 < n) (hbig : n ≤ 1000000) (h : Box w g (zs.map fun z => .int .i64 z)) :
  Calls Try.prog 42 #[.slice (some ⟨g, 0, none⟩) n c] w fun e w' => e = .returned (.tuple #[]) ∧ Box w' g (zs.reverse.map fun z => .int .i64 z) ∧ Turned w w' g := by
 obtain ⟨vs, hvs⟩ : ∃ vs : List Value, (zs.map fun z => Value.int .i64 z) = vs := ⟨_, rfl⟩
 have hvl : vs.length = n := by rw [← hvs, List.length_map, hn]
 have hvr : (zs.reverse.map fun z => Value.int .i64 z) = vs.reverse := by rw [← hvs, List.map_reverse]
 rw [hvr]
 rw [hvs] at h
 have hat : ∀ x, x < n → ∃ z, vs[x]? = some (.int .i64 z) := fun x hx => by
  obtain ⟨z, hz⟩ : ∃ z, zs[x]? = some z := ⟨_, List.getElem?_eq_getElem (by omega)⟩
  exact ⟨z, by rw [← hvs, List.getElem?_map, hz]; rfl⟩
 have HB := Lib.hid h; have HVL := Lib.hid hvl; have HAT := Lib.hid hat
 clear hvs hvl hvr h hat hn
 go_enter Try.func42, Try.ntmps42
 go_wp2
 go_loopw [2, 3] (fun iv jv wr => ∃ (k : Nat) (us : List Value), 2 * k ≤ n + 1 ∧ iv = .int .i64 k ∧ jv = .int .i64 ((n : Int) - 1 - (k : Int)) ∧ Swapped vs us k ∧ Box wr g us ∧ Turned w wr g) (fun iv _ _ => n - (intOf iv).toNat)
 case atStart => exact ⟨0, vs, by omega, rfl, by simp, Swapped.start _, HB.out, Turned.refl _ _⟩
 case round =>
  obtain ⟨k, us, hk, rfl, rfl, hsw, hbox, htu⟩ := hrel
  have HSW := Lib.hid hsw; have HBX := Lib.hid hbox; have HTU := Lib.hid htu
  clear hsw hbox htu
  obtain ⟨jz, hjz⟩ : ∃ jz : Int, (n : Int) - 1 - (k : Int) = jz := ⟨_, rfl⟩
  rw [hjz]
  by_cases hlt : 2 * k + 1 < n
  ·obtain ⟨j, hj⟩ : ∃ j, n - 1 - k = j := ⟨_, rfl⟩
   obtain rfl : jz = (j : Int) := by omega
   have hkj : (k : Int) < (j : Int) := by omega
   obtain ⟨a, ha⟩ := HAT.out k (by omega)
   obtain ⟨b, hb⟩ := HAT.out j (by omega)
   have hua : us[k]? = some (.int .i64 a) := by rw [(HSW.out).2 k (by rw [HVL.out]; omega), if_neg (by rw [HVL.out]; omega)]; exact ha
   have hub : us[j]? = some (.int .i64 b) := by rw [(HSW.out).2 j (by rw [HVL.out]; omega), if_neg (by rw [HVL.out]; omega)]; exact hb
   have hsn := (HSW.out).next (by rw [HVL.out]; omega) ha (by rw [HVL.out, hj]; exact hb)
   rw [HVL.out, hj] at hsn
   have HSN := Lib.hid hsn
   have hd := (HBX.out).drew
   have ca := hd.c k _ hua; have fa := hd.f k _ hua
   have cb := hd.c j _ hub; have fb := hd.f j _ hub
   have hset := hd.set k (.int .i64 b)
   have hset2 := hset.set j (.int .i64 a)
   have hujs : (us.set k (.int .i64 b))[j]? = some (.int .i64 b) := by rw [List.getElem?_set, if_neg (by omega)]; exact hub
   have cb2 := hset.c j _ hujs; have fb2 := hset.f j _ hujs
   have HS2 := Lib.hid hset2
   have HTD := Lib.hid ((HTU.out).drew)
   have b1 : (0 : Int) ≤ (k : Int) := by omega
   have b2 : (k : Int) < (n : Int) := by omega
   have b3 : (0 : Int) ≤ (j : Int) := by omega
   have b4 : (j : Int) < (n : Int) := by omega
   clear hua hub hsn hd hset hset2 hujs ha hb HSW HBX HTU
   go_wp2
   obtain ⟨SSq, hSSq⟩ : ∃ S : Array Bool → World → Prop, ∀ l w', S l w' ↔ ((l.getD 13 true = false → w'.cell? ⟨g, k, none⟩ = some (.int .i64 a)) ∧ (l.getD 13 true = false → w'.cell? ⟨g, j, none⟩ = some (.int .i64 b))) := ⟨_, fun _ _ => Iff.rfl⟩
   refine wp_region_noPanic ?_
   refine wp_region_G SSq 16 #[false, false, false, false, false, false, false, false, false, false, false, false, false, false, false, false] (by kernel_rfl) (by kernel_rfl) (by kernel_rfl) ((hSSq _ _).2 ⟨(fun _ => ca), (fun _ => cb)⟩) (fun hCl hHeld => ?_)
   generalize wr.drew = w2 at *
   refine rG 0 ?_ ?_ ?_ ?_ ?_ ?_ hCl hHeld ?_;rotate_left 2
   ·simp only [gA,gZ]; exact rfl
   ·intro l w'; rw [hSSq, hSSq]; rw [getD_set_ne (i := 0) (j := 13) true (by decide)]
   ·rfl
   ·intro w' hA;clear hA;go_simp;try with_reducible rfl
   clear hCl hHeld
   intro hCl hHeld
   simp only [List.setIfInBounds_toArray, List.set_cons_zero] at hCl hHeld
   (try simp only [Act.put]);try simp only [sA,sZ,sS]
   refine rG 1 ?_ ?_ ?_ ?_ ?_ ?_ hCl hHeld ?_;rotate_left 2
   ·simp only [gA,gS,gZ]; exact rfl
   ·intro l w'; rw [hSSq, hSSq]; rw [getD_set_ne (i := 1) (j := 13) true (by decide)]
   ·rfl
   ·intro w' hA;clear hA;go_simp;try with_reducible rfl
   clear hCl hHeld
   intro hCl hHeld
   simp only [sA,sZ,sS] at hCl hHeld
   (try simp only [Act.put]);try simp only [sA,sZ,sS]
   refine rG 2 ?_ ?_ ?_ ?_ ?_ ?_ hCl hHeld ?_;rotate_left 2
   ·simp only [gA,gS,gZ]; exact rfl
   ·intro l w'; rw [hSSq, hSSq]; rw [getD_set_ne (i := 2) (j := 13) true (by decide)]
   ·rfl
   ·intro w' hA;clear hA;go_simp;try with_reducible rfl
   clear hCl hHeld
   intro hCl hHeld
   simp only [sA,sZ,sS] at hCl hHeld
   (try simp only [Act.put]);try simp only [sA,sZ,sS]
   refine rG 3 ?_ ?_ ?_ ?_ ?_ ?_ hCl hHeld ?_;rotate_left 2
   ·simp only [gA,gS,gZ]; exact rfl
   ·intro l w'; rw [hSSq, hSSq]; rw [getD_set_ne (i := 3) (j := 13) true (by decide)]
   ·rfl
   ·intro w' hA;clear hA;go_simp;try with_reducible rfl
   clear hCl hHeld
   intro hCl hHeld
   simp only [sA,sZ,sS] at hCl hHeld
   (try simp only [Act.put]);try simp only [sA,sZ,sS]
   refine rG 4 ?_ ?_ ?_ ?_ ?_ ?_ hCl hHeld ?_;rotate_left 2
   ·simp only [gA,gS,gZ]; exact rfl
   ·intro l w'; rw [hSSq, hSSq]; rw [getD_set_ne (i := 4) (j := 13) true (by decide)]
   ·rfl
   ·intro w' hA;clear hA;go_simp;try with_reducible rfl
   clear hCl hHeld
   intro hCl hHeld
   simp only [sA,sZ,sS] at hCl hHeld
   (try simp only [Act.put]);try simp only [sA,sZ,sS]
   refine rG 5 ?_ ?_ ?_ ?_ ?_ ?_ hCl hHeld ?_;rotate_left 2
   ·simp only [gA,gS,gZ]; exact rfl
   ·intro l w'; rw [hSSq, hSSq]; rw [getD_set_ne (i := 5) (j := 13) true (by decide)]
   ·rfl
   ·intro w' hA;clear hA;go_simp;try with_reducible rfl
   clear hCl hHeld
   intro hCl hHeld
   simp only [sA,sZ,sS] at hCl hHeld
   (try simp only [Act.put]);try simp only [sA,sZ,sS]
   refine rG 6 ?_ ?_ ?_ ?_ ?_ ?_ hCl hHeld ?_;rotate_left 2
   ·simp only [gA,gS,gZ]; exact rfl
   ·intro l w'; rw [hSSq, hSSq]; rw [getD_set_ne (i := 6) (j := 13) true (by decide)]
   ·rfl
   ·intro w' hA;clear hA;go_simp;try with_reducible rfl
   clear hCl hHeld
   intro hCl hHeld
   simp only [sA,sZ,sS] at hCl hHeld
   (try simp only [Act.put]);try simp only [sA,sZ,sS]
   refine rG 7 ?_ ?_ ?_ ?_ ?_ ?_ hCl hHeld ?_;rotate_left 2
   ·simp only [gA,gS,gZ]; exact rfl
   ·intro l w'; rw [hSSq, hSSq]; rw [getD_set_ne (i := 7) (j := 13) true (by decide)]
   ·rfl
   ·intro w' hA; obtain ⟨l, hl, hi, hSl⟩ := hA; have hSl := (hSSq _ _).1 hSl; obtain ⟨hy0, hy1⟩ := hSl; have hz0 := hy0 (hl.not (t := 13) (by kernel_rfl) hi); have hz1 := hy1 (hl.not (t := 13) (by kernel_rfl) hi); go_simp; try with_reducible rfl
   clear hCl hHeld
   intro hCl hHeld
   simp only [sA,sZ,sS] at hCl hHeld
   (try simp only [Act.put]);try simp only [sA,sZ,sS]
   refine rG 8 ?_ ?_ ?_ ?_ ?_ ?_ hCl hHeld ?_;rotate_left 2
   ·simp only [gA,gS,gZ]; exact rfl
   ·intro l w'; rw [hSSq, hSSq]; rw [getD_set_ne (i := 8) (j := 13) true (by decide)]
   ·rfl
   ·intro w' hA;clear hA;go_simp;try with_reducible rfl
   clear hCl hHeld
   intro hCl hHeld
   simp only [sA,sZ,sS] at hCl hHeld
   (try simp only [Act.put]);try simp only [sA,sZ,sS]
   refine rG 9 ?_ ?_ ?_ ?_ ?_ ?_ hCl hHeld ?_;rotate_left 2
   ·simp only [gA,gS,gZ]; exact rfl
   ·intro l w'; rw [hSSq, hSSq]; rw [getD_set_ne (i := 9) (j := 13) true (by decide)]
   ·rfl
   ·intro w' hA;clear hA;go_simp;try with_reducible rfl
   clear hCl hHeld
   intro hCl hHeld
   simp only [sA,sZ,sS] at hCl hHeld
   (try simp only [Act.put]);try simp only [sA,sZ,sS]
   refine rG 10 ?_ ?_ ?_ ?_ ?_ ?_ hCl hHeld ?_;rotate_left 2
   ·simp only [gA,gS,gZ]; exact rfl
   ·intro l w'; rw [hSSq, hSSq]; rw [getD_set_ne (i := 10) (j := 13) true (by decide)]
   ·rfl
   ·intro w' hA;clear hA;go_simp;try with_reducible rfl
   clear hCl hHeld
   intro hCl hHeld
   simp only [sA,sZ,sS] at hCl hHeld
   (try simp only [Act.put]);try simp only [sA,sZ,sS]
   refine rG 11 ?_ ?_ ?_ ?_ ?_ ?_ hCl hHeld ?_;rotate_left 2
   ·simp only [gA,gS,gZ]; exact rfl
   ·intro l w'; rw [hSSq, hSSq]; rw [getD_set_ne (i := 11) (j := 13) true (by decide)]
   ·rfl
   ·intro w' hA; obtain ⟨l, hl, hi, hSl⟩ := hA; have hSl := (hSSq _ _).1 hSl; obtain ⟨hy0, hy1⟩ := hSl; have hz0 := hy0 (hl.not (t := 13) (by kernel_rfl) hi); have hz1 := hy1 (hl.not (t := 13) (by kernel_rfl) hi); go_simp; try with_reducible rfl
   clear hCl hHeld
   intro hCl hHeld
   simp only [sA,sZ,sS] at hCl hHeld
   (try simp only [Act.put]);try simp only [sA,sZ,sS]
   refine rG 12 ?_ ?_ ?_ ?_ ?_ ?_ hCl hHeld ?_;rotate_left 2
   ·simp only [gA,gS,gZ]; exact rfl
   ·intro l w'; rw [hSSq, hSSq]; rw [getD_set_ne (i := 12) (j := 13) true (by decide)]
   ·rfl
   ·intro w' hA;clear hA;go_simp;try with_reducible rfl
   clear hCl hHeld
   intro hCl hHeld
   simp only [sA,sZ,sS] at hCl hHeld
   (try simp only [Act.put]);try simp only [sA,sZ,sS]
   clear hCl hHeld
   refine reg_callG 13 ?_ (by kernel_rfl) ?_ (fun K hK => ?_);rotate_left 1
   ·simp only [gA,gS,gZ]; exact rfl
   go_simp
   refine hK.out _ _ ((hSSq _ _).2 ⟨(fun h => absurd h (by decide)), (fun h => absurd h (by decide))⟩) ?_
   clear hK K
   (try simp only [Act.put]);try simp only [sA,sZ,sS]
   refine reg_callG 14 ?_ (by kernel_rfl) ?_ (fun K hK => ?_);rotate_left 1
   ·simp only [gA,gS,gZ]; exact rfl
   go_simp
   refine hK.out _ _ ((hSSq _ _).2 ⟨(fun h => absurd h (by decide)), (fun h => absurd h (by decide))⟩) ?_
   clear hK K
   (try simp only [Act.put]);try simp only [sA,sZ,sS]
   refine reg_callG 15 ?_ (by kernel_rfl) ?_ (fun K hK => ?_);rotate_left 1
   ·simp only [gA,gS,gZ]; exact rfl
   go_simp
   refine hK.out _ _ ((hSSq _ _).2 ⟨(fun h => absurd h (by decide)), (fun h => absurd h (by decide))⟩) ?_
   clear hK K
   (try simp only [Act.put]);try simp only [sA,sZ,sS]
   refine wpAnyG_done (by kernel_rfl) ?_ _
   refine NoPanic.normal ?_
   clear hSSq SSq
   go_wp2
   refine ⟨⟨k + 1, _, by omega, by go_num, ?_, HSN.out, HS2.out, ((HTD.out).setCell k _).setCell j _⟩, ?_⟩
   ·have : (j : Int) - 1 = (n : Int) - 1 - ((k + 1 : Nat) : Int) := by omega
    rw [← this]
   ·simp [intOf]; omega
  ·have hge : ¬ (k : Int) < jz := by omega
   have hfin := (HSW.out).done (by rw [HVL.out]; omega)
   have HFIN := Lib.hid hfin; clear hfin
   go_wp2
   go_end0
   exact ⟨rfl, by rw [← HFIN.out]; exact HBX.out, HTU.out⟩
end Go.Proofs.Ytecnnpkpgbbfkaa
