/- What one triangle's mesh has; what a range keeps. -/
import Derived.Test.YtecnnpkpgbbfkaaParto
import Derived.Test.YtecnnpkpgbbfkaaPartq
import Derived.RangeFuncNested
import Derived.RangeFuncBound
import Derived.RangeFuncCalls
import Derived.RangeFuncLeaves
namespace Go.MagM
open Go.RowKit Go.Shelf
theorem keepsOthers_below9 {W W' : World} (h : Below W.heap.size W W') : KeepsOthers W W' := ⟨h.size, fun k _ hk _ => (h.block k (Array.getElem?_eq_some_iff.1 hk).1).trans hk⟩
theorem box_keep9 {Pb : Nat → Prop} {A B : World} {b : Nat} {l : List Value} (h : Box A b l) (hk : KeepB Pb A B) (hb : Pb b) : Box B b l :=
  ⟨fun j u hj => (hk.cell hb).trans (h.c j u hj), fun j u hj => (World.frozen?_of_block (a := ⟨b, j, none⟩) (hk b hb)).trans (h.f j u hj)⟩
theorem range_start9 {F : Fence} {n : Nat} {P : Program} {g : Operand} {ps : Array Tmp} {assign body : Code} {Q : Exit → Act → World → Prop} {a : Act} {w : World} (h : ∀ a0, a0 = a → (Code.rangeFunc g ps assign body).wpIn F n P Q a0 w) : (Code.rangeFunc g ps assign body).wpIn F n P Q a w := h a rfl
theorem keepB_set9 {Pb : Nat → Prop} {A B : World} (h : KeepB Pb A B) {g i : Nat} (hg : ¬ Pb g) (v : Value) : KeepB Pb A (B.setCell ⟨g, i, none⟩ v) := fun b hb => by
  rw [heap_set_far _ _ _ _ _ (fun e => hg (by rw [← e]; exact hb))]; exact h b hb
section
variable {a b c : Nat}
end
end Go.MagM
/- Going round a point: what MeshArounds' range remembers; marks of ranges that a loop leaves. -/
namespace Go.MagM
open Go.RowKit Go.Shelf
/-- The last one that came; none: -1. -/
def lastZ (pre : List (Nat × Nat)) : Int := match pre.getLast? with
  | some y => (y.1 : Int)
  | none => -1
def firstZ (pre : List (Nat × Nat)) : Int := match pre.head? with
  | some y => (y.1 : Int)
  | none => -1
theorem lastZ_app (pre : List (Nat × Nat)) (x : Nat × Nat) : lastZ (pre ++ [x]) = (x.1 : Int) := by unfold lastZ; rw [List.getLast?_append]; rfl
theorem firstZ_app (pre : List (Nat × Nat)) (x : Nat × Nat) : firstZ (pre ++ [x]) = if firstZ pre < 0 then (x.1 : Int) else firstZ pre := by
  cases pre with
  | nil => rfl
  | cons y r =>
    have e : firstZ (y :: r) = (y.1 : Int) := rfl
    rw [e, if_neg (by omega)]; rfl
theorem lastZ_cases (pre : List (Nat × Nat)) : (pre = [] ∧ lastZ pre = -1) ∨ ∃ q y, pre = q ++ [y] ∧ lastZ pre = (y.1 : Int) := by
  rcases List.eq_nil_or_concat pre with rfl | ⟨q, y, rfl⟩
  · exact .inl ⟨rfl, rfl⟩
  · exact .inr ⟨q, y, by simp, by simpa using lastZ_app q y⟩
/-- Which triangles have come, each once. -/
def seenL : List (Nat × Nat) → List Nat
  | [] => []
  | y :: r => let D := seenL r; if y.1 ∈ D then D else D ++ [y.1]
def seenP (pre : List (Nat × Nat)) : List Nat := seenL pre.reverse
theorem seenL_mem : ∀ (pre : List (Nat × Nat)) (t : Nat), t ∈ seenL pre ↔ t ∈ pre.map (·.1)
  | [], t => by simp [seenL]
  | y :: r, t => by
    have ih := seenL_mem r t
    rw [seenL, List.map_cons, List.mem_cons]
    split
    · rename_i h
      rw [ih]
      constructor
      · exact .inr
      · rintro (rfl | h2)
        · exact (seenL_mem r _).1 h
        · exact h2
    · rw [List.mem_append, ih, List.mem_singleton]
      constructor
      · rintro (h2 | h2)
        · exact .inr h2
        · exact .inl h2
      · rintro (h2 | h2)
        · exact .inr h2
        · exact .inl h2
theorem seenP_mem {pre : List (Nat × Nat)} {t : Nat} : t ∈ seenP pre ↔ t ∈ pre.map (·.1) := by
  unfold seenP
  rw [seenL_mem, List.map_reverse, List.mem_reverse]
theorem seenP_app {pre : List (Nat × Nat)} {x : Nat × Nat} (h : x.1 ∉ seenP pre) : seenP (pre ++ [x]) = seenP pre ++ [x.1] := by
  unfold seenP at h ⊢
  rw [List.reverse_append, List.reverse_singleton, List.singleton_append, seenL, if_neg h]
/-- What lies across the edge that goes from the point to the left, by the statement's words. -/
def nxT (T : TriM) (v : Int) : Int := T.n ((placeT T v + 1).tmod 3).toNat
theorem walk_head {S : List TriM} {v first : Int} : ∀ {n : Nat} {t : Int} {y : Nat × Nat}, (walkM S v first n t)[0]? = some y → (y.1 : Int) = t
  | 0, t, y, h => by simp [walkM] at h
  | n + 1, t, y, h => by
    unfold walkM at h
    split at h
    · simp at h
    · rename_i hp
      simp only [List.getElem?_cons_zero, Option.some.injEq] at h
      obtain ⟨m, k, T, rfl, -⟩ := placeM_some (S := S) (t := t) (v := v) hp
      rw [← h]; simp
theorem walk_next {S : List TriM} {v first : Int} : ∀ {n i : Nat} {t : Int} {y z : Nat × Nat}, (walkM S v first n t)[i]? = some y → (walkM S v first n t)[i + 1]? = some z → stepM S v (y.1 : Int) = (z.1 : Int)
  | 0, i, t, y, z, h, _ => by simp [walkM] at h
  | n + 1, i, t, y, z, h, h2 => by
    unfold walkM at h h2
    split at h
    · simp at h
    · rename_i hp
      rw [if_neg hp] at h2
      rw [List.getElem?_cons_succ] at h2
      cases i with
      | zero =>
        simp only [List.getElem?_cons_zero, Option.some.injEq] at h
        obtain ⟨m, k, T, rfl, -⟩ := placeM_some (S := S) (t := t) (v := v) hp
        split at h2
        · simp at h2
        · have := walk_head h2
          rw [this, ← h]; simp
      | succ i =>
        rw [List.getElem?_cons_succ] at h
        split at h2
        · simp at h2
        · rename_i hs
          rw [if_neg hs] at h
          exact walk_next h h2
theorem nxT_step {S : List TriM} {v : Int} {t k : Nat} {T : TriM} (hT : S[t]? = some T) (hk : k < 3) (hp : placeT T v = (k : Int)) : nxT T v = stepM S v (t : Int) := by
  unfold nxT stepM
  rw [getT_nat, hT]
  simp only []
  have : (((k : Int) + 1).tmod 3).toNat = (k + 1) % 3 := by
    obtain rfl | rfl | rfl : k = 0 ∨ k = 1 ∨ k = 2 := by omega
    all_goals decide
  rw [hp, this, Int.toNat_natCast]
/-- What came isn't as it should be. -/
def BadA (S : List TriM) (v : Int) (pre : List (Nat × Nat)) (x : Nat × Nat) : Prop :=
  x.1 ∈ pre.map (·.1) ∨ (∀ T, S[x.1]? = some T → T.v x.2 ≠ v) ∨ (∃ q y T, pre = q ++ [y] ∧ S[y.1]? = some T ∧ nxT T v ≠ (x.1 : Int))
theorem not_bad {S : List TriM} {v : Int} {ys : List (Nat × Nat)} {n : Nat} {first t : Int} (hys : walkM S v first n t = ys) (hst : Star S v ys) (hpl : ∀ (t k : Nat) (T : TriM), S[t]? = some T → k < 3 → T.v k = v → placeT T v = (k : Int)) {pre : List (Nat × Nat)} {x : Nat × Nat} (hpre : pre ++ [x] <+: ys) : ¬ BadA S v pre x := by
  have hx : ys[pre.length]? = some x := by
    obtain ⟨r, hr⟩ := hpre
    rw [← hr, List.append_assoc, List.getElem?_append_right (Nat.le_refl _)]; simp
  rintro (h | h | ⟨q, y, T, rfl, hT, hn⟩)
  · obtain ⟨y, hy, e⟩ := List.mem_map.1 h
    obtain ⟨i, hi⟩ := List.mem_iff_getElem?.1 hy
    have hil := (List.getElem?_eq_some_iff.1 hi).1
    have hyi : ys[i]? = some y := by
      obtain ⟨r, hr⟩ := hpre
      rw [← hr, List.append_assoc, List.getElem?_append_left hil]; exact hi
    have := hst.once i pre.length y x hyi hx e
    omega
  · obtain ⟨X, h1, -, h3⟩ := hst.at_ x (List.mem_of_getElem? hx)
    exact h X h1 h3
  · have hyq : ys[q.length]? = some y := by
      obtain ⟨r, hr⟩ := hpre
      rw [← hr, List.append_assoc, List.append_assoc, List.getElem?_append_right (Nat.le_refl _)]; simp
    rw [List.length_append, List.length_singleton] at hx
    rw [← hys] at hyq hx
    have h1 := walk_next hyq hx
    obtain ⟨X, h2, h3, h4⟩ := hst.at_ y (List.mem_of_getElem? (by rw [← hys]; exact hyq))
    rw [hT] at h2
    cases h2
    exact hn ((nxT_step hT h3 (hpl _ _ _ hT h3 h4)).trans h1)
/-- Marks that a loop's ranges have left: their blocks, shut no more than once each. -/
inductive MarksOk (W : World) : List Deferred → Prop
  | nil : MarksOk W []
  | cons {r : Nat} {ds : List Deferred} (h : W.heap[r]? = some (.deferred (some []))) (hn : ∀ d, d ∈ ds → d.target ≠ .collected r) (t : MarksOk W ds) : MarksOk W ({ target := .collected r, args := #[] } :: ds)
theorem MarksOk.keep {W W' : World} {ds : List Deferred} (h : MarksOk W ds) (hb : Below W.heap.size W W') : MarksOk W' ds := by
  induction h with
  | nil => exact .nil
  | cons h hn t ih => exact .cons ((hb.block _ (Array.getElem?_eq_some_iff.1 h).1).trans h) hn ih
theorem MarksOk.old {W : World} {ds : List Deferred} (h : MarksOk W ds) {r : Nat} (hr : W.heap.size ≤ r) : ∀ d, d ∈ ds → d.target ≠ .collected r := by
  induction h with
  | nil => intro d hd; cases hd
  | cons h hn t ih =>
    intro d hd
    rcases List.mem_cons.1 hd with rfl | hd
    · intro e
      have := (Array.getElem?_eq_some_iff.1 h).1
      simp only [Target.collected.injEq] at e
      omega
    · exact ih d hd
theorem MarksOk.put {W : World} {ds : List Deferred} {r : Nat} (h : MarksOk W ds) (hn : ∀ d, d ∈ ds → d.target ≠ .collected r) (o : Obj) : MarksOk (W.putObj r o) ds := by
  induction h with
  | nil => exact .nil
  | @cons r2 ds h hn2 t ih =>
    refine .cons ((World.putObj_heap_other (fun e => ?_)).trans h) hn2 (ih fun d hd => hn d (List.mem_cons_of_mem _ hd))
    exact hn _ (List.mem_cons_self ..) (by rw [e])
end Go.MagM
/- Around, for a range over it; what a function leaves whose loop has left marks. -/
namespace Go.MagM
open Go.RowKit Go.Shelf
theorem leaves_marks {F : Fence} {n : Nat} {P : Program} {fn : Func} {tmps : Array Value} {R : Ending → World → Prop} : ∀ (ds : List Deferred) (W : World), MarksOk W ds →
    (∀ W' : World, W'.os = W.os → W'.tape = W.tape → W'.output = W.output → W'.heap.size = W.heap.size → (∀ k, (∀ d, d ∈ ds → d.target ≠ .collected k) → W'.heap[k]? = W.heap[k]?) → LeavesInM F n P fn tmps R [] .returning W') →
    LeavesInM F n P fn tmps R ds .returning W
  | [], W, _, h => h W rfl rfl rfl rfl (fun _ _ => rfl)
  | d :: ds, W, hm, h => by
    cases hm with
    | @cons r _ hr hn t =>
      refine ⟨by simp, .inl ⟨_, _, rfl, run_takeDeferred hr, ?_⟩⟩
      refine leaves_marks ds _ (t.put hn _) (fun W' e1 e2 e3 e4 e5 => h W' e1 e2 e3 (by rw [e4]; simp [World.putObj]) (fun k hk => ?_))
      refine (e5 k fun d hd => hk d (List.mem_cons_of_mem _ hd)).trans (World.putObj_heap_other (fun e => ?_))
      exact hk _ (List.mem_cons_self ..) (by rw [e])
end Go.MagM
namespace Go.Proofs.Ytecnnpkpgbbfkaa
open Go.RowKit Go.MagM Go.Shelf
attribute [local go_sem] Oper.semAt_some
theorem round_stops_at (n : Nat) (hn : 1 ≤ n) (Bb Bv Bm : Nat) (Pb : Nat → Prop) {mb pb pc : Nat} {ta : Option Addr} {tc : Nat} {P : List (Int × Int)} {S : List TriM} (v : Int) (w : World) (hm : MeshR w mb pb pc ta tc P S) (hin : MeshIn Pb mb pb ta) (hBb : w.cell? ⟨Bb, 0, none⟩ = some (.func (.func 15) #[.pointer (some ⟨mb, 0, none⟩)] #[])) (hBv : w.cell? ⟨Bv, 0, none⟩ = some (.int .i64 v)) (hBm : w.cell? ⟨Bm, 0, none⟩ = some (.pointer (some ⟨mb, 0, none⟩))) (hPv : Pb Bv) (hPm : Pb Bm) :
    SeqStopsK Fence.wide n Try.prog 50 #[.pointer (some ⟨Bb, 0, none⟩), .pointer (some ⟨Bv, 0, none⟩), .pointer (some ⟨Bm, 0, none⟩)] encR (KeepB Pb) (fun ys : List (RB S) => ys.map (·.1) = walkM S v (atM S v) S.length (atM S v)) (fun pre : List (RB S) => pre.map (·.1) <+: walkM S v (atM S v) S.length (atM S v)) S.length w := fun l J Jx W hW _ _ hY h0 =>
  round1_at n hn l Bb Bv Bm Pb v J Jx hY W (hm.below hW) hin ((hW.cell (p := ⟨Bb, 0, none⟩) (World.block_lt_of_cell? w _ hBb)).trans hBb) ((hW.cell (p := ⟨Bv, 0, none⟩) (World.block_lt_of_cell? w _ hBv)).trans hBv) ((hW.cell (p := ⟨Bm, 0, none⟩) (World.block_lt_of_cell? w _ hBm)).trans hBm) hPv hPm h0
set_option maxHeartbeats 1000000 in
theorem Around_any (mb : Nat) (v : Int) (w : World) :
    Calls Try.prog 13 #[.pointer (some ⟨mb, 0, none⟩), .int .i64 v] w fun e w' => e = .returned (.func (.func 50) #[] #[.pointer (some ⟨w.heap.size + 1 + 1, 0, none⟩), .pointer (some ⟨w.heap.size + 1, 0, none⟩), .pointer (some ⟨w.heap.size, 0, none⟩)]) ∧ w' = ((w.alloc (.cells #[.pointer (some ⟨mb, 0, none⟩)] 25)).alloc (.cells #[.int .i64 v] 3)).alloc (.cells #[.func (.func 15) #[.pointer (some ⟨mb, 0, none⟩)] #[]] 57) := by
  go_enter Try.func13, Try.ntmps13
  go_wp2_with (go_at_call 33; refine (round_any _ _ v mb 15 _ rfl rfl).mono ?_; rintro e w' ⟨rfl, rfl⟩)
  go_ret
  exact ⟨rfl, rfl⟩
end Go.Proofs.Ytecnnpkpgbbfkaa
