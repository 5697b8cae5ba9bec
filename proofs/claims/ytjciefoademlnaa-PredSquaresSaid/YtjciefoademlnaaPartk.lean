/- A region that draws its order and writes what it reads: what is held hangs on what is listed. Over any program. -/
import Derived.Test.YtjciefoademlnaaParth
import Derived.StillTail
import Derived.Test.YtjciefoademlnaaPartj
namespace Go.MagM
open Go
section
variable {P : Program} {ops : Array Oper} {Q : Exit → Act → World → Prop} {md : Region.Mode} {S : Array Bool → World → Prop}
/-- What is listed has all listed that it waits for. -/
def Cl (md : Region.Mode) (ops : Array Oper) (l : Array Bool) : Prop :=
  l.size = ops.size ∧ ∀ (j : Nat) (o : Oper), ops[j]? = some o → l.getD j false = true → ∀ e ∈ o.after, Region.binds md e = true → l.getD e.on false = true
theorem Cl.start : Cl md ops (Array.replicate ops.size false) :=
  ⟨by simp, fun j o _ h => by rw [getD_replicate_false] at h; cases h⟩
theorem Cl.step {l : Array Bool} {i : Nat} (h : Cl md ops l) (hi : i ∈ Region.ready md ops l) : Cl md ops (l.setIfInBounds i true) := by
  refine ⟨by simpa using h.1, fun j o ho hj e he hb => ?_⟩
  obtain ⟨_, o', ho', hall⟩ := mem_ready.1 hi
  by_cases hij : i = j
  · subst hij
    rw [ho'] at ho
    cases ho
    exact getD_set_true (hall e he hb)
  · rw [getD_set_ne false hij] at hj
    exact getD_set_true (h.2 j o ho hj e he hb)
/-- What waits for something that is not listed is not listed. -/
theorem Cl.not {l : Array Bool} {i t : Nat} (h : Cl md ops l) (ht : Region.waitsFor md ops t i = true) (hi : l.getD i true = false) : l.getD t true = false := by
  obtain ⟨o, ho, e, he, hb, rfl⟩ := Region.waitsFor_spec ht
  cases hc : l.getD t true
  · rfl
  · have hlt : t < l.size := by rw [h.1]; exact (Array.getElem?_eq_some_iff.1 ho).1
    have h1 : l.getD t false = true := by simp [hlt] at hc ⊢; exact hc
    have h2 := h.2 t o ho h1 e he hb
    rw [getD_both hi] at h2
    cases h2
/-- Whatever order is picked from here on; what is held behind each operation hangs on what is listed. -/
def wpAnyG (P : Program) (md : Region.Mode) (ops : Array Oper) (Q : Exit → Act → World → Prop) (S : Array Bool → World → Prop) : Nat → Array Bool → Act → World → Prop
  | 0, l, a, w => Region.ready md ops l = [] ∧ Q .normal a w
  | fuel + 1, l, a, w => (Region.ready md ops l = [] → Q .normal a w) ∧
    ∀ i ∈ Region.ready md ops l, wpOp P ops Q i (fun a' w' => S (l.setIfInBounds i true) w' ∧ wpAnyG P md ops Q S fuel (l.setIfInBounds i true) a' w') a w
theorem wpAny_of_G : ∀ (fuel : Nat) (l : Array Bool) (a : Act) (w : World), wpAnyG P md ops Q S fuel l a w → wpAny P md ops Q fuel l a w
  | 0, _, _, _, h => h
  | fuel + 1, _, _, _, h => ⟨h.1, fun i hi => wpOp_mono (fun _ _ h' => wpAny_of_G fuel _ _ _ h'.2) (h.2 i hi)⟩
/-- The worlds in which an operation may come up. -/
def Ahead (md : Region.Mode) (ops : Array Oper) (S : Array Bool → World → Prop) (i : Nat) (w : World) : Prop := ∃ l, Cl md ops l ∧ l.getD i true = false ∧ S l w
theorem wpAnyG_first {i : Nat} {oi : Oper} {v : Value} (hi : ops[i]? = some oi) (hsel : ∀ (j : Nat) (o : Oper) cs b, ops[j]? = some o → o.op ≠ .select cs b)
    (hQ : ∀ c a w, Q (.panic c) (a.put oi.dst v) w → Q (.panic c) a w) (hirr : ∀ l w, S (l.setIfInBounds i true) w ↔ S l w) :
    ∀ (fuel : Nat) (l : Array Bool) (a : Act) (w : World),
      (∀ j oj, ops[j]? = some oj → j ≠ i → l.getD j true = false → (∀ e ∈ oj.after, Region.binds md e = true → e.on ≠ i) → oi.apart ops oj = true) →
      i ∈ Region.ready md ops l → Cl md ops l → YieldsIf P ops (Ahead md ops S i) oi v a → S l w →
      wpAnyG P md ops Q S fuel (l.setIfInBounds i true) (a.put oi.dst v) w → wpAnyG P md ops Q S (fuel + 1) l a w := by
  intro fuel
  induction fuel with
  | zero =>
    intro l a w _ hr hcl hy hS H
    refine ⟨fun h => (by rw [h] at hr; cases hr), fun j hj => ?_⟩
    by_cases hji : j = i
    · subst hji; exact hy.wpOp hi ⟨l, hcl, (mem_ready.1 hr).1, hS⟩ ⟨(hirr _ _).2 hS, H⟩
    · have := ready_mono hj hji
      rw [H.1] at this
      cases this
  | succ fuel ih =>
    intro l a w hfree hr hcl hy hS H
    refine ⟨fun h => (by rw [h] at hr; cases hr), fun j hj => ?_⟩
    by_cases hji : j = i
    · subst hji; exact hy.wpOp hi ⟨l, hcl, (mem_ready.1 hr).1, hS⟩ ⟨(hirr _ _).2 hS, H⟩
    · have h1 := H.2 j (ready_mono hj hji)
      obtain ⟨hjun, oj, hoj, hall⟩ := mem_ready.1 hj
      have hnot : ∀ e ∈ oj.after, Region.binds md e = true → e.on ≠ i := fun e he hb heq => by
        have h1 := hall e he hb
        have h0 := (mem_ready.1 hr).1
        rw [heq, getD_both h0] at h1
        cases h1
      have h2 := wpOp_putIf hoj (hfree j oj hoj hji hjun hnot) (fun cs b => hsel i oi cs b hi) (fun cs b => hsel j oj cs b hoj) hQ hy h1
      have hfree' : ∀ k ok, ops[k]? = some ok → k ≠ i → (l.setIfInBounds j true).getD k true = false →
          (∀ e ∈ ok.after, Region.binds md e = true → e.on ≠ i) → oi.apart ops ok = true := fun k ok hk hki hun hno => by
        refine hfree k ok hk hki ?_ hno
        by_cases hjk : j = k
        · subst hjk; exact hjun
        · rw [getD_set_ne true hjk] at hun; exact hun
      refine wpOp_mono (fun a' w' h3 => ?_) h2
      have hS' : S (l.setIfInBounds j true) w' := by
        have := h3.2.1
        rw [Array.setIfInBounds_comm _ _ (Ne.symm hji)] at this
        exact (hirr _ _).1 this
      refine ⟨hS', ih (l.setIfInBounds j true) a' w' hfree' (ready_mono hr (Ne.symm hji)) (hcl.step hj) h3.1 hS' ?_⟩
      rw [Array.setIfInBounds_comm _ _ hji]
      exact h3.2.2
/-- Operation i yields v in each world in which it may come up. -/
theorem reg_takeG (i : Nat) (oi : Oper) (v : Value) {fuel : Nat} {l : Array Bool} {a : Act} {w : World} (hi : ops[i]? = some oi)
    (hs : Region.noSelect ops = true) (hf : Region.free md ops l i = true) (hr : (Region.ready md ops l).contains i = true)
    (hQ : ∀ c a w, Q (.panic c) (a.put oi.dst v) w → Q (.panic c) a w) (hirr : ∀ l w, S (l.setIfInBounds i true) w ↔ S l w)
    (hw : Region.wanted oi (yielded ops a.tmps) = true) (hy : ∀ w, Ahead md ops S i w → (execOp a.eval oi).run P w = .ok (.value v) w) (hcl : Cl md ops l) (hS : S l w)
    (h : Cl md ops (l.setIfInBounds i true) → S (l.setIfInBounds i true) w → wpAnyG P md ops Q S fuel (l.setIfInBounds i true) (a.put oi.dst v) w) : wpAnyG P md ops Q S (fuel + 1) l a w :=
  have hr' : i ∈ Region.ready md ops l := by simpa using hr
  wpAnyG_first hi (Region.noSelect_spec hs) hQ hirr fuel l a w (Region.free_spec hi hf) hr' hcl (Or.inl ⟨hw, hy⟩) hS (h (hcl.step hr') ((hirr _ _).2 hS))
/-- Operation i alone comes up next. -/
theorem reg_callG (i : Nat) (o : Oper) {fuel : Nat} {l : Array Bool} {a : Act} {w : World} (hr : Region.ready md ops l = [i]) (ho : ops[i]? = some o)
    (h : ∀ K' : Act → World → Prop, Shut (∀ a w, S (l.setIfInBounds i true) w → wpAnyG P md ops Q S fuel (l.setIfInBounds i true) a w → K' a w) → if Region.wanted o (yielded ops a.tmps) = true then Oper.wp P o a w K' Q else K' (a.put o.dst undef) w) :
    wpAnyG P md ops Q S (fuel + 1) l a w := by
  refine ⟨fun h0 => absurd (hr ▸ h0) (by simp), ?_⟩
  rw [hr]
  intro j hj
  obtain rfl : j = i := by simpa using hj
  exact wpOp_step ho (fun K' hK => h K' (fun a w hS hW => hK a w ⟨hS, hW⟩))
theorem wpAnyG_done {l : Array Bool} {a : Act} {w : World} (hr : Region.ready md ops l = []) (h : Q .normal a w) : ∀ fuel, wpAnyG P md ops Q S fuel l a w
  | 0 => ⟨hr, h⟩
  | _ + 1 => ⟨fun _ => h, by rw [hr]; simp⟩
theorem wp_region_G {id : Nat} {a : Act} {w : World} (S : Array Bool → World → Prop) (n : Nat) (l : Array Bool) (hm : P.follows .mixedOrders = true) (hn : ops.size = n) (hl : Array.replicate ops.size false = l) (hS : S l w.drew)
    (h : Cl .any ops l → S l w.drew → wpAnyG P .any ops Q S n l a w.drew) : (Code.region id ops true).wp P Q a w := by
  subst hl hn
  exact wp_region_any hm (wpAny_of_G _ _ _ _ (h Cl.start hS))
end
end Go.MagM
/- The statement PredSquares, walked. -/
namespace Go.Proofs.Ytjciefoademlnaa
open Go.RowKit Go.MagM
set_option maxRecDepth 100000 in
set_option maxHeartbeats 64000000 in
theorem PredSquares_w_ex (x0 x1 y0 y1 a0 a1 b0 b1 : Int) (c0 c1 d1 : Int) (tm0 : ∀ w, Calls Try.prog 10 #[.agg #[.int .i64 x0, .int .i64 x1]] w fun e w' => e = .returned (.agg #[.int .i64 a0, .int .i64 a1]) ∧ Below w.heap.size w w') (tm1 : ∀ w, Calls Try.prog 10 #[.agg #[.int .i64 y0, .int .i64 y1]] w fun e w' => e = .returned (.agg #[.int .i64 b0, .int .i64 b1]) ∧ Below w.heap.size w w') (em0 : (if b0 < a0 then b0 else a0) = c0) (em1 : (if b1 < a1 then b1 else a1) = c1) (ex0 : (if a0 < b0 then b0 else a0) = c0) (ex1 : (if a1 < b1 then b1 else a1) = d1) (w : World) :
    Calls Try.prog 5 #[.agg #[.int .i64 x0, .int .i64 x1], .agg #[.int .i64 y0, .int .i64 y1]] w fun e w' => e = .returned (.bool true) ∧ Below w.heap.size w w' := by
  have hB_0 := Below.refl w.heap.size w
  have TM0 := Lib.hid tm0; have TM1 := Lib.hid tm1; have EM0 := Lib.hid em0; have EM1 := Lib.hid em1; have EX0 := Lib.hid ex0; have EX1 := Lib.hid ex1
  clear tm0 tm1 em0 em1 ex0 ex1
  obtain ⟨w1, hw1, pa_0, hb1, hs1⟩ := new_box w (w.heap.size) rfl [.int .i64 x0, .int .i64 x1] 23
  have hb1' : Below w.heap.size w w1 := hb1.mono (by omega)
  clear hb1
  have hB_1 := hB_0.trans (hb1'.mono hB_0.size)
  clear hb1' hB_0
  obtain ⟨w2, hw2, pb_0, hb2, hs2⟩ := new_box w1 (w.heap.size + 1) hs1 [.int .i64 y0, .int .i64 y1] 23
  have hb2' : Below w1.heap.size w1 w2 := hb2.mono (by omega)
  clear hb2
  have hB_2 := hB_1.trans (hb2'.mono hB_1.size)
  have pa_1 := pa_0.below hb2'
  clear hb2' hB_1 pa_0
  go_enter Try.func5, Try.ntmps5
  obtain ⟨pae0, pae1, pae2, pae3⟩ := pa_1.open2
  obtain ⟨pbe0, pbe1, pbe2, pbe3⟩ := pb_0.open2
  go_wp2_with fail
  refine (pfit_any _).mono ?_
  rintro e w3 ⟨rfl, hb3⟩
  clear pae0 pae1 pae2 pae3 pbe0 pbe1 pbe2 pbe3
  have hB_3 := hB_2.trans (hb3.mono hB_2.size)
  have pa_2 := pa_1.below hb3
  have pb_1 := pb_0.below hb3
  clear hb3 hB_2 pa_1 pb_0
  obtain ⟨pae0, pae1, pae2, pae3⟩ := pa_2.open2
  obtain ⟨pbe0, pbe1, pbe2, pbe3⟩ := pb_1.open2
  go_wp2
  clear pae0 pae1 pae2 pae3 pbe0 pbe1 pbe2 pbe3
  have hWi_0 := Below.refl w3.heap.size w3
  have hsi : w.heap.size ≤ w3.heap.size := hB_3.size
  have hlipa := pa_2.lt
  have hlipb := pb_1.lt
  have hB_4 := hB_3.drew'
  have pa_3 := pa_2.drew
  have pb_2 := pb_1.drew
  have hWi_1 := hWi_0.drew'
  clear hB_3 pa_2 pb_1 hWi_0
  obtain ⟨FFi, hFFi⟩ : ∃ F : World → Prop, ∀ w', F w' ↔ (Below w.heap.size w w' ∧ Box w' (w.heap.size) [.int .i64 x0, .int .i64 x1] ∧ Box w' (w.heap.size + 1) [.int .i64 y0, .int .i64 y1] ∧ Below w3.heap.size w3 w') := ⟨_, fun _ => Iff.rfl⟩
  have cFi : ∀ {w' w'' : World}, FFi w' → Below w'.heap.size w' w'' → FFi w'' := by
    intro w' w'' h hb
    obtain ⟨y0, y1, y2, y3⟩ := (hFFi _).1 h
    exact (hFFi _).2 ⟨y0.trans (hb.mono y0.size), y1.below hb, y2.below hb, y3.trans (hb.mono y3.size)⟩
  have mFi : ∀ {w' : World}, FFi w' → w3.heap.size ≤ w'.heap.size := by
    intro w' h
    obtain ⟨y0, y1, y2, y3⟩ := (hFFi _).1 h
    exact y3.size
  have sFi : ∀ {w' : World}, FFi w' → (True) := by
    intro w' h
    obtain ⟨y0, y1, y2, y3⟩ := (hFFi _).1 h
    exact trivial
  have zF : FFi w3.drew := (hFFi _).2 ⟨hB_4, pa_3, pb_2, hWi_1⟩
  clear hB_4 pa_3 pb_2 hWi_1
  refine wp_region_noPanic ?_
  refine wp_region_held_drew (S := fun w' => True) (by kernel_rfl) (sFi zF) (fun hHeld => ?_)
  refine reg_grab (fun WWi ai hWW hAA => ?_)
  rw [hWW]
  have HAi := Lib.hid hAA; clear hWW hAA hHeld
  obtain ⟨IVi, hIVi⟩ : ∃ IV : Array Bool → Act → World → Prop, ∀ l a w', IV l a w' ↔ ∃ (k : Nat) (bb0 bb1 : Bool) (v0_ v1_ p0_ p1_ : Value), k ≤ 2 ∧ l = #[bb0, decide (1 ≤ k), bb1, decide (2 ≤ k), false, false] ∧ a = ((((ai.put (some 14) v0_).put (some 16) v1_).put (some 13) p0_).put (some 15) p1_) ∧ FFi w' ∧ (1 ≤ k → v0_ = .agg #[.int .i64 a0, .int .i64 a1]) ∧ (2 ≤ k → v1_ = .agg #[.int .i64 b0, .int .i64 b1]) ∧ (bb0 = true → p0_ = .agg #[.int .i64 x0, .int .i64 x1]) ∧ (bb1 = true → p1_ = .agg #[.int .i64 y0, .int .i64 y1]) ∧ (1 ≤ k → bb0 = true) ∧ (2 ≤ k → bb1 = true) := ⟨_, fun _ _ _ => Iff.rfl⟩
  refine wpAnyH_until IVi ?_ _ _ _ _ ((hIVi _ _ _).2 ⟨0, false, false, (ai.tmps.getD 14 undef), (ai.tmps.getD 16 undef), (ai.tmps.getD 13 undef), (ai.tmps.getD 15 undef), Nat.zero_le _, rfl, (by simp only [put_same]), zF, (fun h => absurd h (by omega)), (fun h => absurd h (by omega)), (fun h => by cases h), (fun h => by cases h), (fun h => absurd h (by omega)), (fun h => absurd h (by omega))⟩) (by kernel_rfl)
  clear zF
  intro ll aa w4 hI
  obtain ⟨k, bb0, bb1, v0_, v1_, p0_, p1_, hk, rfl, rfl, zF, rr1, rr2, zz0, zz1, dp0_0, dp1_1⟩ := (hIVi _ _ _).1 hI
  clear hI
  by_cases hL : k = 2 ∧ bb0 = true ∧ bb1 = true
  · left
    obtain ⟨rfl, rfl, rfl⟩ := hL
    obtain rfl := rr1 (by omega)
    obtain rfl := rr2 (by omega)
    obtain rfl := zz0 rfl
    obtain rfl := zz1 rfl
    clear hk dp0_0 dp1_1
    show wpAnyH _ _ _ _ _ 2 _ _ _
    rw [HAi.out]
    try simp only [Act.put]
    try simp only [List.setIfInBounds_toArray, List.set_cons_zero, List.set_cons_succ]
    obtain ⟨hB_0, pa_0, pb_0, hWi_0⟩ := (hFFi _).1 zF
    clear zF
    clear hWi_0
    obtain ⟨sf1a, sf1b, sf1c, sf1d⟩ := pa_0.open2
    obtain ⟨sg1a, sg1b⟩ := Box.put2 pa_0 (.int .i64 a0)
    refine reg_call 4 ?_ (by kernel_rfl) ?_ (fun K hK => ?_)
    rotate_left 1
    · simp only [List.getElem?_toArray, List.getElem?_cons_succ, List.getElem?_cons_zero]; exact rfl
    go_simp
    have hB_1 := below_setAll hB_0 (g := w.heap.size) (by omega) [.int .i64 a0, .int .i64 a1]
    have pb_1 := pb_0.farAll (g' := w.heap.size) (by omega) [.int .i64 a0, .int .i64 a1]
    have pa_1 := pa_0.setAll [.int .i64 a0, .int .i64 a1] rfl
    simp only [setAll, Nat.zero_add] at hB_1 pa_1 pb_1
    clear sf1a sf1b sf1c sf1d sg1a sg1b
    clear hB_0 pb_0 pa_0
    refine hK.out _ _ trivial (fun hHeld => ?_)
    clear hK K
    try simp only [Act.put]
    try simp only [List.setIfInBounds_toArray, List.set_cons_zero, List.set_cons_succ]
    generalize (World.setCell (World.setCell w4 ⟨w.heap.size, 0, none⟩ (.int .i64 a0)) ⟨w.heap.size, 1, none⟩ (.int .i64 a1)) = w5 at *
    obtain ⟨sf2a, sf2b, sf2c, sf2d⟩ := pb_1.open2
    obtain ⟨sg2a, sg2b⟩ := Box.put2 pb_1 (.int .i64 b0)
    refine reg_call 5 ?_ (by kernel_rfl) ?_ (fun K hK => ?_)
    rotate_left 1
    · simp only [List.getElem?_toArray, List.getElem?_cons_succ, List.getElem?_cons_zero]; exact rfl
    go_simp
    have hB_2 := below_setAll hB_1 (g := w.heap.size + 1) (by omega) [.int .i64 b0, .int .i64 b1]
    have pa_2 := pa_1.farAll (g' := w.heap.size + 1) (by omega) [.int .i64 b0, .int .i64 b1]
    have pb_2 := pb_1.setAll [.int .i64 b0, .int .i64 b1] rfl
    simp only [setAll, Nat.zero_add] at hB_2 pa_2 pb_2
    clear sf2a sf2b sf2c sf2d sg2a sg2b
    clear hB_1 pa_1 pb_1
    refine hK.out _ _ trivial (fun hHeld => ?_)
    clear hK K
    try simp only [Act.put]
    try simp only [List.setIfInBounds_toArray, List.set_cons_zero, List.set_cons_succ]
    generalize (World.setCell (World.setCell w5 ⟨w.heap.size + 1, 0, none⟩ (.int .i64 b0)) ⟨w.heap.size + 1, 1, none⟩ (.int .i64 b1)) = w6 at *
    refine wpAnyH_done (by kernel_rfl) ?_ _
    refine NoPanic.normal ?_
    obtain ⟨pae0, pae1, pae2, pae3⟩ := pa_2.open2
    obtain ⟨pbe0, pbe1, pbe2, pbe3⟩ := pb_2.open2
    try go_wp2
    have em0 := EM0.out
    have em1 := EM1.out
    have ex0 := EX0.out
    have ex1 := EX1.out
    clear pae0 pae1 pae2 pae3 pbe0 pbe1 pbe2 pbe3
    have hB_3 := hB_2.drew'
    clear hB_2
    have pa_3 := pa_2.drew
    clear pa_2
    have pb_3 := pb_2.drew
    clear pb_2
    obtain ⟨SSg, hSSg⟩ : ∃ S : Array Bool → World → Prop, ∀ l w', S l w' ↔ ((l.getD 22 true = false → w'.cell? ⟨w.heap.size, 0, none⟩ = some (.int .i64 a0) ∧ w'.cell? ⟨w.heap.size, 1, none⟩ = some (.int .i64 a1)) ∧ (l.getD 23 true = false → w'.cell? ⟨w.heap.size + 1, 0, none⟩ = some (.int .i64 b0) ∧ w'.cell? ⟨w.heap.size + 1, 1, none⟩ = some (.int .i64 b1))) := ⟨_, fun _ _ => Iff.rfl⟩
    refine wp_region_noPanic ?_
    refine wp_region_G SSg 24 #[false, false, false, false, false, false, false, false, false, false, false, false, false, false, false, false, false, false, false, false, false, false, false, false] (by kernel_rfl) (by kernel_rfl) (by kernel_rfl) ((hSSg _ _).2 ⟨(fun _ => ⟨pa_3.c0, pa_3.c1⟩), (fun _ => ⟨pb_3.c0, pb_3.c1⟩)⟩) (fun hCl hHeld => ?_)
    generalize w6.drew = w7 at *
    refine reg_takeG 0 ?_ ?_ ?_ (by kernel_rfl) (by kernel_rfl) (by kernel_rfl) (fun _ _ _ h => h) ?_ ?_ ?_ hCl hHeld ?_
    rotate_left 2
    · simp only [List.getElem?_toArray, List.getElem?_cons_zero]; exact rfl
    · intro l w'; rw [hSSg, hSSg]; rw [getD_set_ne (i := 0) (j := 22) true (by decide)]; rw [getD_set_ne (i := 0) (j := 23) true (by decide)]
    · rfl
    · intro w' hA; clear hA; go_simp; try with_reducible rfl
    clear hCl hHeld
    intro hCl hHeld
    simp only [List.setIfInBounds_toArray, List.set_cons_zero] at hCl hHeld
    try simp only [Act.put]
    try simp only [List.setIfInBounds_toArray, List.set_cons_zero, List.set_cons_succ]
    refine reg_takeG 1 ?_ ?_ ?_ (by kernel_rfl) (by kernel_rfl) (by kernel_rfl) (fun _ _ _ h => h) ?_ ?_ ?_ hCl hHeld ?_
    rotate_left 2
    · simp only [List.getElem?_toArray, List.getElem?_cons_succ, List.getElem?_cons_zero]; exact rfl
    · intro l w'; rw [hSSg, hSSg]; rw [getD_set_ne (i := 1) (j := 22) true (by decide)]; rw [getD_set_ne (i := 1) (j := 23) true (by decide)]
    · rfl
    · intro w' hA; obtain ⟨l, hl, hi, hSl⟩ := hA; have hSl := (hSSg _ _).1 hSl; obtain ⟨hy0, hy1⟩ := hSl; obtain ⟨hz0_0, hz0_1⟩ := hy0 (hl.not (t := 22) (by kernel_rfl) hi); obtain ⟨hz1_0, hz1_1⟩ := hy1 (hl.not (t := 23) (by kernel_rfl) hi); go_simp; try with_reducible rfl
    clear hCl hHeld
    intro hCl hHeld
    simp only [List.setIfInBounds_toArray, List.set_cons_zero, List.set_cons_succ] at hCl hHeld
    try simp only [Act.put]
    try simp only [List.setIfInBounds_toArray, List.set_cons_zero, List.set_cons_succ]
    refine reg_takeG 2 ?_ ?_ ?_ (by kernel_rfl) (by kernel_rfl) (by kernel_rfl) (fun _ _ _ h => h) ?_ ?_ ?_ hCl hHeld ?_
    rotate_left 2
    · simp only [List.getElem?_toArray, List.getElem?_cons_succ, List.getElem?_cons_zero]; exact rfl
    · intro l w'; rw [hSSg, hSSg]; rw [getD_set_ne (i := 2) (j := 22) true (by decide)]; rw [getD_set_ne (i := 2) (j := 23) true (by decide)]
    · rfl
    · intro w' hA; clear hA; go_simp; try with_reducible rfl
    clear hCl hHeld
    intro hCl hHeld
    simp only [List.setIfInBounds_toArray, List.set_cons_zero, List.set_cons_succ] at hCl hHeld
    try simp only [Act.put]
    try simp only [List.setIfInBounds_toArray, List.set_cons_zero, List.set_cons_succ]
    refine reg_takeG 3 ?_ ?_ ?_ (by kernel_rfl) (by kernel_rfl) (by kernel_rfl) (fun _ _ _ h => h) ?_ ?_ ?_ hCl hHeld ?_
    rotate_left 2
    · simp only [List.getElem?_toArray, List.getElem?_cons_succ, List.getElem?_cons_zero]; exact rfl
    · intro l w'; rw [hSSg, hSSg]; rw [getD_set_ne (i := 3) (j := 22) true (by decide)]; rw [getD_set_ne (i := 3) (j := 23) true (by decide)]
    · rfl
    · intro w' hA; obtain ⟨l, hl, hi, hSl⟩ := hA; have hSl := (hSSg _ _).1 hSl; obtain ⟨hy0, hy1⟩ := hSl; obtain ⟨hz0_0, hz0_1⟩ := hy0 (hl.not (t := 22) (by kernel_rfl) hi); obtain ⟨hz1_0, hz1_1⟩ := hy1 (hl.not (t := 23) (by kernel_rfl) hi); go_simp; try with_reducible rfl
    clear hCl hHeld
    intro hCl hHeld
    simp only [List.setIfInBounds_toArray, List.set_cons_zero, List.set_cons_succ] at hCl hHeld
    try simp only [Act.put]
    try simp only [List.setIfInBounds_toArray, List.set_cons_zero, List.set_cons_succ]
    refine reg_takeG 4 ?_ ?_ ?_ (by kernel_rfl) (by kernel_rfl) (by kernel_rfl) (fun _ _ _ h => h) ?_ ?_ ?_ hCl hHeld ?_
    rotate_left 2
    · simp only [List.getElem?_toArray, List.getElem?_cons_succ, List.getElem?_cons_zero]; exact rfl
    · intro l w'; rw [hSSg, hSSg]; rw [getD_set_ne (i := 4) (j := 22) true (by decide)]; rw [getD_set_ne (i := 4) (j := 23) true (by decide)]
    · rfl
    · intro w' hA; clear hA; go_simp; try with_reducible rfl
    clear hCl hHeld
    intro hCl hHeld
    simp only [List.setIfInBounds_toArray, List.set_cons_zero, List.set_cons_succ] at hCl hHeld
    try simp only [Act.put]
    try simp only [List.setIfInBounds_toArray, List.set_cons_zero, List.set_cons_succ]
    refine reg_takeG 5 ?_ ?_ ?_ (by kernel_rfl) (by kernel_rfl) (by kernel_rfl) (fun _ _ _ h => h) ?_ ?_ ?_ hCl hHeld ?_
    rotate_left 2
    · simp only [List.getElem?_toArray, List.getElem?_cons_succ, List.getElem?_cons_zero]; exact rfl
    · intro l w'; rw [hSSg, hSSg]; rw [getD_set_ne (i := 5) (j := 22) true (by decide)]; rw [getD_set_ne (i := 5) (j := 23) true (by decide)]
    · rfl
    · intro w' hA; clear hA; go_simp; try with_reducible rfl
    clear hCl hHeld
    intro hCl hHeld
    simp only [List.setIfInBounds_toArray, List.set_cons_zero, List.set_cons_succ] at hCl hHeld
    try simp only [Act.put]
    try simp only [List.setIfInBounds_toArray, List.set_cons_zero, List.set_cons_succ]
    refine reg_takeG 6 ?_ ?_ ?_ (by kernel_rfl) (by kernel_rfl) (by kernel_rfl) (fun _ _ _ h => h) ?_ ?_ ?_ hCl hHeld ?_
    rotate_left 2
    · simp only [List.getElem?_toArray, List.getElem?_cons_succ, List.getElem?_cons_zero]; exact rfl
    · intro l w'; rw [hSSg, hSSg]; rw [getD_set_ne (i := 6) (j := 22) true (by decide)]; rw [getD_set_ne (i := 6) (j := 23) true (by decide)]
    · rfl
    · intro w' hA; obtain ⟨l, hl, hi, hSl⟩ := hA; have hSl := (hSSg _ _).1 hSl; obtain ⟨hy0, hy1⟩ := hSl; obtain ⟨hz0_0, hz0_1⟩ := hy0 (hl.not (t := 22) (by kernel_rfl) hi); obtain ⟨hz1_0, hz1_1⟩ := hy1 (hl.not (t := 23) (by kernel_rfl) hi); go_simp; try with_reducible rfl
    clear hCl hHeld
    intro hCl hHeld
    simp only [List.setIfInBounds_toArray, List.set_cons_zero, List.set_cons_succ] at hCl hHeld
    try simp only [Act.put]
    try simp only [List.setIfInBounds_toArray, List.set_cons_zero, List.set_cons_succ]
    refine reg_takeG 7 ?_ ?_ ?_ (by kernel_rfl) (by kernel_rfl) (by kernel_rfl) (fun _ _ _ h => h) ?_ ?_ ?_ hCl hHeld ?_
    rotate_left 2
    · simp only [List.getElem?_toArray, List.getElem?_cons_succ, List.getElem?_cons_zero]; exact rfl
    · intro l w'; rw [hSSg, hSSg]; rw [getD_set_ne (i := 7) (j := 22) true (by decide)]; rw [getD_set_ne (i := 7) (j := 23) true (by decide)]
    · rfl
    · intro w' hA; clear hA; go_simp; try with_reducible rfl
    clear hCl hHeld
    intro hCl hHeld
    simp only [List.setIfInBounds_toArray, List.set_cons_zero, List.set_cons_succ] at hCl hHeld
    try simp only [Act.put]
    try simp only [List.setIfInBounds_toArray, List.set_cons_zero, List.set_cons_succ]
    refine reg_takeG 8 ?_ ?_ ?_ (by kernel_rfl) (by kernel_rfl) (by kernel_rfl) (fun _ _ _ h => h) ?_ ?_ ?_ hCl hHeld ?_
    rotate_left 2
    · simp only [List.getElem?_toArray, List.getElem?_cons_succ, List.getElem?_cons_zero]; exact rfl
    · intro l w'; rw [hSSg, hSSg]; rw [getD_set_ne (i := 8) (j := 22) true (by decide)]; rw [getD_set_ne (i := 8) (j := 23) true (by decide)]
    · rfl
    · intro w' hA; obtain ⟨l, hl, hi, hSl⟩ := hA; have hSl := (hSSg _ _).1 hSl; obtain ⟨hy0, hy1⟩ := hSl; obtain ⟨hz0_0, hz0_1⟩ := hy0 (hl.not (t := 22) (by kernel_rfl) hi); obtain ⟨hz1_0, hz1_1⟩ := hy1 (hl.not (t := 23) (by kernel_rfl) hi); go_simp; try with_reducible rfl
    clear hCl hHeld
    intro hCl hHeld
    simp only [List.setIfInBounds_toArray, List.set_cons_zero, List.set_cons_succ] at hCl hHeld
    try simp only [Act.put]
    try simp only [List.setIfInBounds_toArray, List.set_cons_zero, List.set_cons_succ]
    refine reg_takeG 9 ?_ ?_ ?_ (by kernel_rfl) (by kernel_rfl) (by kernel_rfl) (fun _ _ _ h => h) ?_ ?_ ?_ hCl hHeld ?_
    rotate_left 2
    · simp only [List.getElem?_toArray, List.getElem?_cons_succ, List.getElem?_cons_zero]; exact rfl
    · intro l w'; rw [hSSg, hSSg]; rw [getD_set_ne (i := 9) (j := 22) true (by decide)]; rw [getD_set_ne (i := 9) (j := 23) true (by decide)]
    · rfl
    · intro w' hA; clear hA; go_simp; try with_reducible rfl
    clear hCl hHeld
    intro hCl hHeld
    simp only [List.setIfInBounds_toArray, List.set_cons_zero, List.set_cons_succ] at hCl hHeld
    try simp only [Act.put]
    try simp only [List.setIfInBounds_toArray, List.set_cons_zero, List.set_cons_succ]
    refine reg_takeG 10 ?_ ?_ ?_ (by kernel_rfl) (by kernel_rfl) (by kernel_rfl) (fun _ _ _ h => h) ?_ ?_ ?_ hCl hHeld ?_
    rotate_left 2
    · simp only [List.getElem?_toArray, List.getElem?_cons_succ, List.getElem?_cons_zero]; exact rfl
    · intro l w'; rw [hSSg, hSSg]; rw [getD_set_ne (i := 10) (j := 22) true (by decide)]; rw [getD_set_ne (i := 10) (j := 23) true (by decide)]
    · rfl
    · intro w' hA; clear hA; go_simp; try with_reducible rfl
    clear hCl hHeld
    intro hCl hHeld
    simp only [List.setIfInBounds_toArray, List.set_cons_zero, List.set_cons_succ] at hCl hHeld
    try simp only [Act.put]
    try simp only [List.setIfInBounds_toArray, List.set_cons_zero, List.set_cons_succ]
    refine reg_takeG 11 ?_ ?_ ?_ (by kernel_rfl) (by kernel_rfl) (by kernel_rfl) (fun _ _ _ h => h) ?_ ?_ ?_ hCl hHeld ?_
    rotate_left 2
    · simp only [List.getElem?_toArray, List.getElem?_cons_succ, List.getElem?_cons_zero]; exact rfl
    · intro l w'; rw [hSSg, hSSg]; rw [getD_set_ne (i := 11) (j := 22) true (by decide)]; rw [getD_set_ne (i := 11) (j := 23) true (by decide)]
    · rfl
    · intro w' hA; clear hA; go_simp; try with_reducible rfl
    clear hCl hHeld
    intro hCl hHeld
    simp only [List.setIfInBounds_toArray, List.set_cons_zero, List.set_cons_succ] at hCl hHeld
    try simp only [Act.put]
    try simp only [List.setIfInBounds_toArray, List.set_cons_zero, List.set_cons_succ]
    refine reg_takeG 12 ?_ ?_ ?_ (by kernel_rfl) (by kernel_rfl) (by kernel_rfl) (fun _ _ _ h => h) ?_ ?_ ?_ hCl hHeld ?_
    rotate_left 2
    · simp only [List.getElem?_toArray, List.getElem?_cons_succ, List.getElem?_cons_zero]; exact rfl
    · intro l w'; rw [hSSg, hSSg]; rw [getD_set_ne (i := 12) (j := 22) true (by decide)]; rw [getD_set_ne (i := 12) (j := 23) true (by decide)]
    · rfl
    · intro w' hA; obtain ⟨l, hl, hi, hSl⟩ := hA; have hSl := (hSSg _ _).1 hSl; obtain ⟨hy0, hy1⟩ := hSl; obtain ⟨hz0_0, hz0_1⟩ := hy0 (hl.not (t := 22) (by kernel_rfl) hi); obtain ⟨hz1_0, hz1_1⟩ := hy1 (hl.not (t := 23) (by kernel_rfl) hi); go_simp; try with_reducible rfl
    clear hCl hHeld
    intro hCl hHeld
    simp only [List.setIfInBounds_toArray, List.set_cons_zero, List.set_cons_succ] at hCl hHeld
    try simp only [Act.put]
    try simp only [List.setIfInBounds_toArray, List.set_cons_zero, List.set_cons_succ]
    refine reg_takeG 13 ?_ ?_ ?_ (by kernel_rfl) (by kernel_rfl) (by kernel_rfl) (fun _ _ _ h => h) ?_ ?_ ?_ hCl hHeld ?_
    rotate_left 2
    · simp only [List.getElem?_toArray, List.getElem?_cons_succ, List.getElem?_cons_zero]; exact rfl
    · intro l w'; rw [hSSg, hSSg]; rw [getD_set_ne (i := 13) (j := 22) true (by decide)]; rw [getD_set_ne (i := 13) (j := 23) true (by decide)]
    · rfl
    · intro w' hA; clear hA; go_simp; try with_reducible rfl
    clear hCl hHeld
    intro hCl hHeld
    simp only [List.setIfInBounds_toArray, List.set_cons_zero, List.set_cons_succ] at hCl hHeld
    try simp only [Act.put]
    try simp only [List.setIfInBounds_toArray, List.set_cons_zero, List.set_cons_succ]
    refine reg_takeG 14 ?_ ?_ ?_ (by kernel_rfl) (by kernel_rfl) (by kernel_rfl) (fun _ _ _ h => h) ?_ ?_ ?_ hCl hHeld ?_
    rotate_left 2
    · simp only [List.getElem?_toArray, List.getElem?_cons_succ, List.getElem?_cons_zero]; exact rfl
    · intro l w'; rw [hSSg, hSSg]; rw [getD_set_ne (i := 14) (j := 22) true (by decide)]; rw [getD_set_ne (i := 14) (j := 23) true (by decide)]
    · rfl
    · intro w' hA; obtain ⟨l, hl, hi, hSl⟩ := hA; have hSl := (hSSg _ _).1 hSl; obtain ⟨-, hy1⟩ := hSl; obtain ⟨hz1_0, hz1_1⟩ := hy1 (hl.not (t := 23) (by kernel_rfl) hi); go_simp; try with_reducible rfl
    clear hCl hHeld
    intro hCl hHeld
    simp only [List.setIfInBounds_toArray, List.set_cons_zero, List.set_cons_succ] at hCl hHeld
    try simp only [Act.put]
    try simp only [List.setIfInBounds_toArray, List.set_cons_zero, List.set_cons_succ]
    refine reg_takeG 15 ?_ ?_ ?_ (by kernel_rfl) (by kernel_rfl) (by kernel_rfl) (fun _ _ _ h => h) ?_ ?_ ?_ hCl hHeld ?_
    rotate_left 2
    · simp only [List.getElem?_toArray, List.getElem?_cons_succ, List.getElem?_cons_zero]; exact rfl
    · intro l w'; rw [hSSg, hSSg]; rw [getD_set_ne (i := 15) (j := 22) true (by decide)]; rw [getD_set_ne (i := 15) (j := 23) true (by decide)]
    · rfl
    · intro w' hA; clear hA; go_simp; try with_reducible rfl
    clear hCl hHeld
    intro hCl hHeld
    simp only [List.setIfInBounds_toArray, List.set_cons_zero, List.set_cons_succ] at hCl hHeld
    try simp only [Act.put]
    try simp only [List.setIfInBounds_toArray, List.set_cons_zero, List.set_cons_succ]
    refine reg_takeG 16 ?_ ?_ ?_ (by kernel_rfl) (by kernel_rfl) (by kernel_rfl) (fun _ _ _ h => h) ?_ ?_ ?_ hCl hHeld ?_
    rotate_left 2
    · simp only [List.getElem?_toArray, List.getElem?_cons_succ, List.getElem?_cons_zero]; exact rfl
    · intro l w'; rw [hSSg, hSSg]; rw [getD_set_ne (i := 16) (j := 22) true (by decide)]; rw [getD_set_ne (i := 16) (j := 23) true (by decide)]
    · rfl
    · intro w' hA; clear hA; go_simp; try with_reducible rfl
    clear hCl hHeld
    intro hCl hHeld
    simp only [List.setIfInBounds_toArray, List.set_cons_zero, List.set_cons_succ] at hCl hHeld
    try simp only [Act.put]
    try simp only [List.setIfInBounds_toArray, List.set_cons_zero, List.set_cons_succ]
    refine reg_takeG 17 ?_ ?_ ?_ (by kernel_rfl) (by kernel_rfl) (by kernel_rfl) (fun _ _ _ h => h) ?_ ?_ ?_ hCl hHeld ?_
    rotate_left 2
    · simp only [List.getElem?_toArray, List.getElem?_cons_succ, List.getElem?_cons_zero]; exact rfl
    · intro l w'; rw [hSSg, hSSg]; rw [getD_set_ne (i := 17) (j := 22) true (by decide)]; rw [getD_set_ne (i := 17) (j := 23) true (by decide)]
    · rfl
    · intro w' hA; obtain ⟨l, hl, hi, hSl⟩ := hA; have hSl := (hSSg _ _).1 hSl; obtain ⟨hy0, hy1⟩ := hSl; obtain ⟨hz0_0, hz0_1⟩ := hy0 (hl.not (t := 22) (by kernel_rfl) hi); obtain ⟨hz1_0, hz1_1⟩ := hy1 (hl.not (t := 23) (by kernel_rfl) hi); go_simp; try with_reducible rfl
    clear hCl hHeld
    intro hCl hHeld
    simp only [List.setIfInBounds_toArray, List.set_cons_zero, List.set_cons_succ] at hCl hHeld
    try simp only [Act.put]
    try simp only [List.setIfInBounds_toArray, List.set_cons_zero, List.set_cons_succ]
    refine reg_takeG 18 ?_ ?_ ?_ (by kernel_rfl) (by kernel_rfl) (by kernel_rfl) (fun _ _ _ h => h) ?_ ?_ ?_ hCl hHeld ?_
    rotate_left 2
    · simp only [List.getElem?_toArray, List.getElem?_cons_succ, List.getElem?_cons_zero]; exact rfl
    · intro l w'; rw [hSSg, hSSg]; rw [getD_set_ne (i := 18) (j := 22) true (by decide)]; rw [getD_set_ne (i := 18) (j := 23) true (by decide)]
    · rfl
    · intro w' hA; clear hA; go_simp; try with_reducible rfl
    clear hCl hHeld
    intro hCl hHeld
    simp only [List.setIfInBounds_toArray, List.set_cons_zero, List.set_cons_succ] at hCl hHeld
    try simp only [Act.put]
    try simp only [List.setIfInBounds_toArray, List.set_cons_zero, List.set_cons_succ]
    refine reg_takeG 19 ?_ ?_ ?_ (by kernel_rfl) (by kernel_rfl) (by kernel_rfl) (fun _ _ _ h => h) ?_ ?_ ?_ hCl hHeld ?_
    rotate_left 2
    · simp only [List.getElem?_toArray, List.getElem?_cons_succ, List.getElem?_cons_zero]; exact rfl
    · intro l w'; rw [hSSg, hSSg]; rw [getD_set_ne (i := 19) (j := 22) true (by decide)]; rw [getD_set_ne (i := 19) (j := 23) true (by decide)]
    · rfl
    · intro w' hA; obtain ⟨l, hl, hi, hSl⟩ := hA; have hSl := (hSSg _ _).1 hSl; obtain ⟨-, hy1⟩ := hSl; obtain ⟨hz1_0, hz1_1⟩ := hy1 (hl.not (t := 23) (by kernel_rfl) hi); go_simp; try with_reducible rfl
    clear hCl hHeld
    intro hCl hHeld
    simp only [List.setIfInBounds_toArray, List.set_cons_zero, List.set_cons_succ] at hCl hHeld
    try simp only [Act.put]
    try simp only [List.setIfInBounds_toArray, List.set_cons_zero, List.set_cons_succ]
    refine reg_takeG 20 ?_ ?_ ?_ (by kernel_rfl) (by kernel_rfl) (by kernel_rfl) (fun _ _ _ h => h) ?_ ?_ ?_ hCl hHeld ?_
    rotate_left 2
    · simp only [List.getElem?_toArray, List.getElem?_cons_succ, List.getElem?_cons_zero]; exact rfl
    · intro l w'; rw [hSSg, hSSg]; rw [getD_set_ne (i := 20) (j := 22) true (by decide)]; rw [getD_set_ne (i := 20) (j := 23) true (by decide)]
    · rfl
    · intro w' hA; clear hA; go_simp; try with_reducible rfl
    clear hCl hHeld
    intro hCl hHeld
    simp only [List.setIfInBounds_toArray, List.set_cons_zero, List.set_cons_succ] at hCl hHeld
    try simp only [Act.put]
    try simp only [List.setIfInBounds_toArray, List.set_cons_zero, List.set_cons_succ]
    refine reg_takeG 21 ?_ ?_ ?_ (by kernel_rfl) (by kernel_rfl) (by kernel_rfl) (fun _ _ _ h => h) ?_ ?_ ?_ hCl hHeld ?_
    rotate_left 2
    · simp only [List.getElem?_toArray, List.getElem?_cons_succ, List.getElem?_cons_zero]; exact rfl
    · intro l w'; rw [hSSg, hSSg]; rw [getD_set_ne (i := 21) (j := 22) true (by decide)]; rw [getD_set_ne (i := 21) (j := 23) true (by decide)]
    · rfl
    · intro w' hA; clear hA; go_simp; try with_reducible rfl
    clear hCl hHeld
    intro hCl hHeld
    simp only [List.setIfInBounds_toArray, List.set_cons_zero, List.set_cons_succ] at hCl hHeld
    try simp only [Act.put]
    try simp only [List.setIfInBounds_toArray, List.set_cons_zero, List.set_cons_succ]
    clear hCl hHeld
    obtain ⟨sf3a, sf3b, sf3c, sf3d⟩ := pa_3.open2
    obtain ⟨sg3a, sg3b⟩ := Box.put2 pa_3 (.int .i64 c0)
    refine reg_callG 22 ?_ (by kernel_rfl) ?_ (fun K hK => ?_)
    rotate_left 1
    · simp only [List.getElem?_toArray, List.getElem?_cons_succ, List.getElem?_cons_zero]; exact rfl
    go_simp
    have hB_4 := below_setAll hB_3 (g := w.heap.size) (by omega) [.int .i64 c0, .int .i64 c1]
    have pb_4 := pb_3.farAll (g' := w.heap.size) (by omega) [.int .i64 c0, .int .i64 c1]
    have pa_4 := pa_3.setAll [.int .i64 c0, .int .i64 c1] rfl
    simp only [setAll, Nat.zero_add] at hB_4 pa_4 pb_4
    clear sf3a sf3b sf3c sf3d sg3a sg3b
    clear hB_3 pb_3 pa_3
    refine hK.out _ _ ((hSSg _ _).2 ⟨(fun h => absurd h (by decide)), (fun _ => ⟨pb_4.c0, pb_4.c1⟩)⟩) ?_
    clear hK K
    try simp only [Act.put]
    try simp only [List.setIfInBounds_toArray, List.set_cons_zero, List.set_cons_succ]
    generalize (World.setCell (World.setCell w7 ⟨w.heap.size, 0, none⟩ (.int .i64 c0)) ⟨w.heap.size, 1, none⟩ (.int .i64 c1)) = w8 at *
    obtain ⟨sf4a, sf4b, sf4c, sf4d⟩ := pb_4.open2
    obtain ⟨sg4a, sg4b⟩ := Box.put2 pb_4 (.int .i64 c0)
    refine reg_callG 23 ?_ (by kernel_rfl) ?_ (fun K hK => ?_)
    rotate_left 1
    · simp only [List.getElem?_toArray, List.getElem?_cons_succ, List.getElem?_cons_zero]; exact rfl
    go_simp
    have hB_5 := below_setAll hB_4 (g := w.heap.size + 1) (by omega) [.int .i64 c0, .int .i64 d1]
    have pa_5 := pa_4.farAll (g' := w.heap.size + 1) (by omega) [.int .i64 c0, .int .i64 d1]
    have pb_5 := pb_4.setAll [.int .i64 c0, .int .i64 d1] rfl
    simp only [setAll, Nat.zero_add] at hB_5 pa_5 pb_5
    clear sf4a sf4b sf4c sf4d sg4a sg4b
    clear hB_4 pa_4 pb_4
    refine hK.out _ _ ((hSSg _ _).2 ⟨(fun h => absurd h (by decide)), (fun h => absurd h (by decide))⟩) ?_
    clear hK K
    try simp only [Act.put]
    try simp only [List.setIfInBounds_toArray, List.set_cons_zero, List.set_cons_succ]
    generalize (World.setCell (World.setCell w8 ⟨w.heap.size + 1, 0, none⟩ (.int .i64 c0)) ⟨w.heap.size + 1, 1, none⟩ (.int .i64 d1)) = w9 at *
    refine wpAnyG_done (by kernel_rfl) ?_ _
    refine NoPanic.normal ?_
    clear hSSg SSg
    clear em0 em1 ex0 ex1
    obtain ⟨pae0, pae1, pae2, pae3⟩ := pa_5.open2
    obtain ⟨pbe0, pbe1, pbe2, pbe3⟩ := pb_5.open2
    go_wp2
    go_ret
    exact ⟨rfl, hB_5⟩
  · right
    refine ⟨?_, fun i hi => ?_⟩
    · clear zF rr1 rr2 zz0 zz1
      obtain rfl | rfl | rfl : k = 0 ∨ k = 1 ∨ k = 2 := by omega
      all_goals cases bb0
      all_goals cases bb1
      all_goals first | exact absurd ⟨rfl, rfl, rfl⟩ hL | exact absurd (dp0_0 (by decide)) (by decide) | exact absurd (dp1_1 (by decide)) (by decide) | exact of_decide_eq_true (by kernel_rfl)
    have hd : (k = 0 ∧ bb0 = true ∧ i = 1) ∨ (k = 1 ∧ bb1 = true ∧ i = 3) ∨ (bb0 = false ∧ i = 0) ∨ (bb1 = false ∧ i = 2) := by
      clear zF rr1 rr2 zz0 zz1
      revert i
      obtain rfl | rfl | rfl : k = 0 ∨ k = 1 ∨ k = 2 := by omega
      all_goals cases bb0
      all_goals cases bb1
      all_goals first | exact absurd ⟨rfl, rfl, rfl⟩ hL | exact absurd (dp0_0 (by decide)) (by decide) | exact absurd (dp1_1 (by decide)) (by decide) | exact of_decide_eq_true (by kernel_rfl)
    clear hi hL
    rcases hd with ⟨rfl, rfl, rfl⟩ | ⟨rfl, rfl, rfl⟩ | ⟨rfl, rfl⟩ | ⟨rfl, rfl⟩
    · obtain rfl := zz0 rfl
      refine step_of 1 ?_ ?_ (fun K hK => ?_)
      rotate_left 1
      · simp only [List.getElem?_toArray, List.getElem?_cons_succ, List.getElem?_cons_zero]; exact rfl
      rw [HAi.out]
      try simp only [Act.put]
      try simp only [List.setIfInBounds_toArray, List.set_cons_zero, List.set_cons_succ]
      go_simp
      refine (TM0.out _).mono ?_
      rintro e w10 ⟨rfl, hb⟩
      go_wp2_with fail
      refine hK.out _ _ (sFi (cFi zF hb)) ?_
      exact (hIVi _ _ _).2 ⟨1, true, bb1, (.agg #[.int .i64 a0, .int .i64 a1]), v1_, _, p1_, (by omega), rfl, (by simp only [HAi.out, Act.put, List.setIfInBounds_toArray, List.set_cons_zero, List.set_cons_succ]), (cFi zF hb), (fun _ => rfl), (fun h => absurd h (by omega)), (fun _ => rfl), zz1, (fun _ => rfl), (fun h => absurd h (by omega))⟩
    · obtain rfl := rr1 (by omega)
      obtain rfl := dp0_0 (by omega)
      obtain rfl := zz0 rfl
      obtain rfl := zz1 rfl
      refine step_of 3 ?_ ?_ (fun K hK => ?_)
      rotate_left 1
      · simp only [List.getElem?_toArray, List.getElem?_cons_succ, List.getElem?_cons_zero]; exact rfl
      rw [HAi.out]
      try simp only [Act.put]
      try simp only [List.setIfInBounds_toArray, List.set_cons_zero, List.set_cons_succ]
      go_simp
      refine (TM1.out _).mono ?_
      rintro e w11 ⟨rfl, hb⟩
      go_wp2_with fail
      refine hK.out _ _ (sFi (cFi zF hb)) ?_
      exact (hIVi _ _ _).2 ⟨2, true, true, _, (.agg #[.int .i64 b0, .int .i64 b1]), _, _, (by omega), rfl, (by simp only [HAi.out, Act.put, List.setIfInBounds_toArray, List.set_cons_zero, List.set_cons_succ]), (cFi zF hb), (fun _ => rfl), (fun _ => rfl), (fun _ => rfl), (fun _ => rfl), (fun _ => rfl), (fun _ => rfl)⟩
    · obtain ⟨-, pa_0, -, -⟩ := (hFFi _).1 zF
      obtain ⟨pae0, pae1, pae2, pae3⟩ := pa_0.open2
      refine step_of 0 ?_ ?_ (fun K hK => ?_)
      rotate_left 1
      · simp only [List.getElem?_toArray, List.getElem?_cons_zero]; exact rfl
      rw [HAi.out]
      try simp only [Act.put]
      try simp only [List.setIfInBounds_toArray, List.set_cons_zero, List.set_cons_succ]
      go_simp
      refine hK.out _ _ (sFi zF) ?_
      exact (hIVi _ _ _).2 ⟨k, true, bb1, v0_, v1_, (.agg #[.int .i64 x0, .int .i64 x1]), p1_, hk, rfl, (by simp only [HAi.out, Act.put, List.setIfInBounds_toArray, List.set_cons_zero, List.set_cons_succ]), zF, rr1, rr2, (fun _ => rfl), zz1, (fun _ => rfl), dp1_1⟩
    · obtain ⟨-, -, pb_0, -⟩ := (hFFi _).1 zF
      obtain ⟨pbe0, pbe1, pbe2, pbe3⟩ := pb_0.open2
      refine step_of 2 ?_ ?_ (fun K hK => ?_)
      rotate_left 1
      · simp only [List.getElem?_toArray, List.getElem?_cons_succ, List.getElem?_cons_zero]; exact rfl
      rw [HAi.out]
      try simp only [Act.put]
      try simp only [List.setIfInBounds_toArray, List.set_cons_zero, List.set_cons_succ]
      go_simp
      refine hK.out _ _ (sFi zF) ?_
      exact (hIVi _ _ _).2 ⟨k, bb0, true, v0_, v1_, p0_, (.agg #[.int .i64 y0, .int .i64 y1]), hk, rfl, (by simp only [HAi.out, Act.put, List.setIfInBounds_toArray, List.set_cons_zero, List.set_cons_succ]), zF, rr1, rr2, zz0, (fun _ => rfl), dp0_0, (fun _ => rfl)⟩
set_option maxRecDepth 100000 in
set_option maxHeartbeats 64000000 in
theorem PredSquares_w_ey (x0 x1 y0 y1 a0 a1 b0 b1 : Int) (c0 c1 d0 : Int) (tm0 : ∀ w, Calls Try.prog 10 #[.agg #[.int .i64 x0, .int .i64 x1]] w fun e w' => e = .returned (.agg #[.int .i64 a0, .int .i64 a1]) ∧ Below w.heap.size w w') (tm1 : ∀ w, Calls Try.prog 10 #[.agg #[.int .i64 y0, .int .i64 y1]] w fun e w' => e = .returned (.agg #[.int .i64 b0, .int .i64 b1]) ∧ Below w.heap.size w w') (em0 : (if b0 < a0 then b0 else a0) = c0) (em1 : (if b1 < a1 then b1 else a1) = c1) (ex0 : (if a0 < b0 then b0 else a0) = d0) (ex1 : (if a1 < b1 then b1 else a1) = c1) (_nx : decide (c0 = d0) = false) (nx' : (c0 == d0) = false) (w : World) :
    Calls Try.prog 5 #[.agg #[.int .i64 x0, .int .i64 x1], .agg #[.int .i64 y0, .int .i64 y1]] w fun e w' => e = .returned (.bool true) ∧ Below w.heap.size w w' := by
  have hB_0 := Below.refl w.heap.size w
  have TM0 := Lib.hid tm0; have TM1 := Lib.hid tm1; have EM0 := Lib.hid em0; have EM1 := Lib.hid em1; have EX0 := Lib.hid ex0; have EX1 := Lib.hid ex1
  clear tm0 tm1 em0 em1 ex0 ex1
  obtain ⟨w1, hw1, pa_0, hb1, hs1⟩ := new_box w (w.heap.size) rfl [.int .i64 x0, .int .i64 x1] 23
  have hb1' : Below w.heap.size w w1 := hb1.mono (by omega)
  clear hb1
  have hB_1 := hB_0.trans (hb1'.mono hB_0.size)
  clear hb1' hB_0
  obtain ⟨w2, hw2, pb_0, hb2, hs2⟩ := new_box w1 (w.heap.size + 1) hs1 [.int .i64 y0, .int .i64 y1] 23
  have hb2' : Below w1.heap.size w1 w2 := hb2.mono (by omega)
  clear hb2
  have hB_2 := hB_1.trans (hb2'.mono hB_1.size)
  have pa_1 := pa_0.below hb2'
  clear hb2' hB_1 pa_0
  go_enter Try.func5, Try.ntmps5
  obtain ⟨pae0, pae1, pae2, pae3⟩ := pa_1.open2
  obtain ⟨pbe0, pbe1, pbe2, pbe3⟩ := pb_0.open2
  go_wp2_with fail
  refine (pfit_any _).mono ?_
  rintro e w3 ⟨rfl, hb3⟩
  clear pae0 pae1 pae2 pae3 pbe0 pbe1 pbe2 pbe3
  have hB_3 := hB_2.trans (hb3.mono hB_2.size)
  have pa_2 := pa_1.below hb3
  have pb_1 := pb_0.below hb3
  clear hb3 hB_2 pa_1 pb_0
  obtain ⟨pae0, pae1, pae2, pae3⟩ := pa_2.open2
  obtain ⟨pbe0, pbe1, pbe2, pbe3⟩ := pb_1.open2
  go_wp2
  clear pae0 pae1 pae2 pae3 pbe0 pbe1 pbe2 pbe3
  have hWi_0 := Below.refl w3.heap.size w3
  have hsi : w.heap.size ≤ w3.heap.size := hB_3.size
  have hlipa := pa_2.lt
  have hlipb := pb_1.lt
  have hB_4 := hB_3.drew'
  have pa_3 := pa_2.drew
  have pb_2 := pb_1.drew
  have hWi_1 := hWi_0.drew'
  clear hB_3 pa_2 pb_1 hWi_0
  obtain ⟨FFi, hFFi⟩ : ∃ F : World → Prop, ∀ w', F w' ↔ (Below w.heap.size w w' ∧ Box w' (w.heap.size) [.int .i64 x0, .int .i64 x1] ∧ Box w' (w.heap.size + 1) [.int .i64 y0, .int .i64 y1] ∧ Below w3.heap.size w3 w') := ⟨_, fun _ => Iff.rfl⟩
  have cFi : ∀ {w' w'' : World}, FFi w' → Below w'.heap.size w' w'' → FFi w'' := by
    intro w' w'' h hb
    obtain ⟨y0, y1, y2, y3⟩ := (hFFi _).1 h
    exact (hFFi _).2 ⟨y0.trans (hb.mono y0.size), y1.below hb, y2.below hb, y3.trans (hb.mono y3.size)⟩
  have mFi : ∀ {w' : World}, FFi w' → w3.heap.size ≤ w'.heap.size := by
    intro w' h
    obtain ⟨y0, y1, y2, y3⟩ := (hFFi _).1 h
    exact y3.size
  have sFi : ∀ {w' : World}, FFi w' → (True) := by
    intro w' h
    obtain ⟨y0, y1, y2, y3⟩ := (hFFi _).1 h
    exact trivial
  have zF : FFi w3.drew := (hFFi _).2 ⟨hB_4, pa_3, pb_2, hWi_1⟩
  clear hB_4 pa_3 pb_2 hWi_1
  refine wp_region_noPanic ?_
  refine wp_region_held_drew (S := fun w' => True) (by kernel_rfl) (sFi zF) (fun hHeld => ?_)
  refine reg_grab (fun WWi ai hWW hAA => ?_)
  rw [hWW]
  have HAi := Lib.hid hAA; clear hWW hAA hHeld
  obtain ⟨IVi, hIVi⟩ : ∃ IV : Array Bool → Act → World → Prop, ∀ l a w', IV l a w' ↔ ∃ (k : Nat) (bb0 bb1 : Bool) (v0_ v1_ p0_ p1_ : Value), k ≤ 2 ∧ l = #[bb0, decide (1 ≤ k), bb1, decide (2 ≤ k), false, false] ∧ a = ((((ai.put (some 14) v0_).put (some 16) v1_).put (some 13) p0_).put (some 15) p1_) ∧ FFi w' ∧ (1 ≤ k → v0_ = .agg #[.int .i64 a0, .int .i64 a1]) ∧ (2 ≤ k → v1_ = .agg #[.int .i64 b0, .int .i64 b1]) ∧ (bb0 = true → p0_ = .agg #[.int .i64 x0, .int .i64 x1]) ∧ (bb1 = true → p1_ = .agg #[.int .i64 y0, .int .i64 y1]) ∧ (1 ≤ k → bb0 = true) ∧ (2 ≤ k → bb1 = true) := ⟨_, fun _ _ _ => Iff.rfl⟩
  refine wpAnyH_until IVi ?_ _ _ _ _ ((hIVi _ _ _).2 ⟨0, false, false, (ai.tmps.getD 14 undef), (ai.tmps.getD 16 undef), (ai.tmps.getD 13 undef), (ai.tmps.getD 15 undef), Nat.zero_le _, rfl, (by simp only [put_same]), zF, (fun h => absurd h (by omega)), (fun h => absurd h (by omega)), (fun h => by cases h), (fun h => by cases h), (fun h => absurd h (by omega)), (fun h => absurd h (by omega))⟩) (by kernel_rfl)
  clear zF
  intro ll aa w4 hI
  obtain ⟨k, bb0, bb1, v0_, v1_, p0_, p1_, hk, rfl, rfl, zF, rr1, rr2, zz0, zz1, dp0_0, dp1_1⟩ := (hIVi _ _ _).1 hI
  clear hI
  by_cases hL : k = 2 ∧ bb0 = true ∧ bb1 = true
  · left
    obtain ⟨rfl, rfl, rfl⟩ := hL
    obtain rfl := rr1 (by omega)
    obtain rfl := rr2 (by omega)
    obtain rfl := zz0 rfl
    obtain rfl := zz1 rfl
    clear hk dp0_0 dp1_1
    show wpAnyH _ _ _ _ _ 2 _ _ _
    rw [HAi.out]
    try simp only [Act.put]
    try simp only [List.setIfInBounds_toArray, List.set_cons_zero, List.set_cons_succ]
    obtain ⟨hB_0, pa_0, pb_0, hWi_0⟩ := (hFFi _).1 zF
    clear zF
    clear hWi_0
    obtain ⟨sf1a, sf1b, sf1c, sf1d⟩ := pa_0.open2
    obtain ⟨sg1a, sg1b⟩ := Box.put2 pa_0 (.int .i64 a0)
    refine reg_call 4 ?_ (by kernel_rfl) ?_ (fun K hK => ?_)
    rotate_left 1
    · simp only [List.getElem?_toArray, List.getElem?_cons_succ, List.getElem?_cons_zero]; exact rfl
    go_simp
    have hB_1 := below_setAll hB_0 (g := w.heap.size) (by omega) [.int .i64 a0, .int .i64 a1]
    have pb_1 := pb_0.farAll (g' := w.heap.size) (by omega) [.int .i64 a0, .int .i64 a1]
    have pa_1 := pa_0.setAll [.int .i64 a0, .int .i64 a1] rfl
    simp only [setAll, Nat.zero_add] at hB_1 pa_1 pb_1
    clear sf1a sf1b sf1c sf1d sg1a sg1b
    clear hB_0 pb_0 pa_0
    refine hK.out _ _ trivial (fun hHeld => ?_)
    clear hK K
    try simp only [Act.put]
    try simp only [List.setIfInBounds_toArray, List.set_cons_zero, List.set_cons_succ]
    generalize (World.setCell (World.setCell w4 ⟨w.heap.size, 0, none⟩ (.int .i64 a0)) ⟨w.heap.size, 1, none⟩ (.int .i64 a1)) = w5 at *
    obtain ⟨sf2a, sf2b, sf2c, sf2d⟩ := pb_1.open2
    obtain ⟨sg2a, sg2b⟩ := Box.put2 pb_1 (.int .i64 b0)
    refine reg_call 5 ?_ (by kernel_rfl) ?_ (fun K hK => ?_)
    rotate_left 1
    · simp only [List.getElem?_toArray, List.getElem?_cons_succ, List.getElem?_cons_zero]; exact rfl
    go_simp
    have hB_2 := below_setAll hB_1 (g := w.heap.size + 1) (by omega) [.int .i64 b0, .int .i64 b1]
    have pa_2 := pa_1.farAll (g' := w.heap.size + 1) (by omega) [.int .i64 b0, .int .i64 b1]
    have pb_2 := pb_1.setAll [.int .i64 b0, .int .i64 b1] rfl
    simp only [setAll, Nat.zero_add] at hB_2 pa_2 pb_2
    clear sf2a sf2b sf2c sf2d sg2a sg2b
    clear hB_1 pa_1 pb_1
    refine hK.out _ _ trivial (fun hHeld => ?_)
    clear hK K
    try simp only [Act.put]
    try simp only [List.setIfInBounds_toArray, List.set_cons_zero, List.set_cons_succ]
    generalize (World.setCell (World.setCell w5 ⟨w.heap.size + 1, 0, none⟩ (.int .i64 b0)) ⟨w.heap.size + 1, 1, none⟩ (.int .i64 b1)) = w6 at *
    refine wpAnyH_done (by kernel_rfl) ?_ _
    refine NoPanic.normal ?_
    obtain ⟨pae0, pae1, pae2, pae3⟩ := pa_2.open2
    obtain ⟨pbe0, pbe1, pbe2, pbe3⟩ := pb_2.open2
    try go_wp2
    have em0 := EM0.out
    have em1 := EM1.out
    have ex0 := EX0.out
    have ex1 := EX1.out
    clear pae0 pae1 pae2 pae3 pbe0 pbe1 pbe2 pbe3
    have hB_3 := hB_2.drew'
    clear hB_2
    have pa_3 := pa_2.drew
    clear pa_2
    have pb_3 := pb_2.drew
    clear pb_2
    obtain ⟨SSg, hSSg⟩ : ∃ S : Array Bool → World → Prop, ∀ l w', S l w' ↔ ((l.getD 22 true = false → w'.cell? ⟨w.heap.size, 0, none⟩ = some (.int .i64 a0) ∧ w'.cell? ⟨w.heap.size, 1, none⟩ = some (.int .i64 a1)) ∧ (l.getD 23 true = false → w'.cell? ⟨w.heap.size + 1, 0, none⟩ = some (.int .i64 b0) ∧ w'.cell? ⟨w.heap.size + 1, 1, none⟩ = some (.int .i64 b1))) := ⟨_, fun _ _ => Iff.rfl⟩
    refine wp_region_noPanic ?_
    refine wp_region_G SSg 24 #[false, false, false, false, false, false, false, false, false, false, false, false, false, false, false, false, false, false, false, false, false, false, false, false] (by kernel_rfl) (by kernel_rfl) (by kernel_rfl) ((hSSg _ _).2 ⟨(fun _ => ⟨pa_3.c0, pa_3.c1⟩), (fun _ => ⟨pb_3.c0, pb_3.c1⟩)⟩) (fun hCl hHeld => ?_)
    generalize w6.drew = w7 at *
    refine reg_takeG 0 ?_ ?_ ?_ (by kernel_rfl) (by kernel_rfl) (by kernel_rfl) (fun _ _ _ h => h) ?_ ?_ ?_ hCl hHeld ?_
    rotate_left 2
    · simp only [List.getElem?_toArray, List.getElem?_cons_zero]; exact rfl
    · intro l w'; rw [hSSg, hSSg]; rw [getD_set_ne (i := 0) (j := 22) true (by decide)]; rw [getD_set_ne (i := 0) (j := 23) true (by decide)]
    · rfl
    · intro w' hA; clear hA; go_simp; try with_reducible rfl
    clear hCl hHeld
    intro hCl hHeld
    simp only [List.setIfInBounds_toArray, List.set_cons_zero] at hCl hHeld
    try simp only [Act.put]
    try simp only [List.setIfInBounds_toArray, List.set_cons_zero, List.set_cons_succ]
    refine reg_takeG 1 ?_ ?_ ?_ (by kernel_rfl) (by kernel_rfl) (by kernel_rfl) (fun _ _ _ h => h) ?_ ?_ ?_ hCl hHeld ?_
    rotate_left 2
    · simp only [List.getElem?_toArray, List.getElem?_cons_succ, List.getElem?_cons_zero]; exact rfl
    · intro l w'; rw [hSSg, hSSg]; rw [getD_set_ne (i := 1) (j := 22) true (by decide)]; rw [getD_set_ne (i := 1) (j := 23) true (by decide)]
    · rfl
    · intro w' hA; obtain ⟨l, hl, hi, hSl⟩ := hA; have hSl := (hSSg _ _).1 hSl; obtain ⟨hy0, hy1⟩ := hSl; obtain ⟨hz0_0, hz0_1⟩ := hy0 (hl.not (t := 22) (by kernel_rfl) hi); obtain ⟨hz1_0, hz1_1⟩ := hy1 (hl.not (t := 23) (by kernel_rfl) hi); go_simp; try with_reducible rfl
    clear hCl hHeld
    intro hCl hHeld
    simp only [List.setIfInBounds_toArray, List.set_cons_zero, List.set_cons_succ] at hCl hHeld
    try simp only [Act.put]
    try simp only [List.setIfInBounds_toArray, List.set_cons_zero, List.set_cons_succ]
    refine reg_takeG 2 ?_ ?_ ?_ (by kernel_rfl) (by kernel_rfl) (by kernel_rfl) (fun _ _ _ h => h) ?_ ?_ ?_ hCl hHeld ?_
    rotate_left 2
    · simp only [List.getElem?_toArray, List.getElem?_cons_succ, List.getElem?_cons_zero]; exact rfl
    · intro l w'; rw [hSSg, hSSg]; rw [getD_set_ne (i := 2) (j := 22) true (by decide)]; rw [getD_set_ne (i := 2) (j := 23) true (by decide)]
    · rfl
    · intro w' hA; clear hA; go_simp; try with_reducible rfl
    clear hCl hHeld
    intro hCl hHeld
    simp only [List.setIfInBounds_toArray, List.set_cons_zero, List.set_cons_succ] at hCl hHeld
    try simp only [Act.put]
    try simp only [List.setIfInBounds_toArray, List.set_cons_zero, List.set_cons_succ]
    refine reg_takeG 3 ?_ ?_ ?_ (by kernel_rfl) (by kernel_rfl) (by kernel_rfl) (fun _ _ _ h => h) ?_ ?_ ?_ hCl hHeld ?_
    rotate_left 2
    · simp only [List.getElem?_toArray, List.getElem?_cons_succ, List.getElem?_cons_zero]; exact rfl
    · intro l w'; rw [hSSg, hSSg]; rw [getD_set_ne (i := 3) (j := 22) true (by decide)]; rw [getD_set_ne (i := 3) (j := 23) true (by decide)]
    · rfl
    · intro w' hA; obtain ⟨l, hl, hi, hSl⟩ := hA; have hSl := (hSSg _ _).1 hSl; obtain ⟨hy0, hy1⟩ := hSl; obtain ⟨hz0_0, hz0_1⟩ := hy0 (hl.not (t := 22) (by kernel_rfl) hi); obtain ⟨hz1_0, hz1_1⟩ := hy1 (hl.not (t := 23) (by kernel_rfl) hi); go_simp; try with_reducible rfl
    clear hCl hHeld
    intro hCl hHeld
    simp only [List.setIfInBounds_toArray, List.set_cons_zero, List.set_cons_succ] at hCl hHeld
    try simp only [Act.put]
    try simp only [List.setIfInBounds_toArray, List.set_cons_zero, List.set_cons_succ]
    refine reg_takeG 4 ?_ ?_ ?_ (by kernel_rfl) (by kernel_rfl) (by kernel_rfl) (fun _ _ _ h => h) ?_ ?_ ?_ hCl hHeld ?_
    rotate_left 2
    · simp only [List.getElem?_toArray, List.getElem?_cons_succ, List.getElem?_cons_zero]; exact rfl
    · intro l w'; rw [hSSg, hSSg]; rw [getD_set_ne (i := 4) (j := 22) true (by decide)]; rw [getD_set_ne (i := 4) (j := 23) true (by decide)]
    · rfl
    · intro w' hA; clear hA; go_simp; try with_reducible rfl
    clear hCl hHeld
    intro hCl hHeld
    simp only [List.setIfInBounds_toArray, List.set_cons_zero, List.set_cons_succ] at hCl hHeld
    try simp only [Act.put]
    try simp only [List.setIfInBounds_toArray, List.set_cons_zero, List.set_cons_succ]
    refine reg_takeG 5 ?_ ?_ ?_ (by kernel_rfl) (by kernel_rfl) (by kernel_rfl) (fun _ _ _ h => h) ?_ ?_ ?_ hCl hHeld ?_
    rotate_left 2
    · simp only [List.getElem?_toArray, List.getElem?_cons_succ, List.getElem?_cons_zero]; exact rfl
    · intro l w'; rw [hSSg, hSSg]; rw [getD_set_ne (i := 5) (j := 22) true (by decide)]; rw [getD_set_ne (i := 5) (j := 23) true (by decide)]
    · rfl
    · intro w' hA; clear hA; go_simp; try with_reducible rfl
    clear hCl hHeld
    intro hCl hHeld
    simp only [List.setIfInBounds_toArray, List.set_cons_zero, List.set_cons_succ] at hCl hHeld
    try simp only [Act.put]
    try simp only [List.setIfInBounds_toArray, List.set_cons_zero, List.set_cons_succ]
    refine reg_takeG 6 ?_ ?_ ?_ (by kernel_rfl) (by kernel_rfl) (by kernel_rfl) (fun _ _ _ h => h) ?_ ?_ ?_ hCl hHeld ?_
    rotate_left 2
    · simp only [List.getElem?_toArray, List.getElem?_cons_succ, List.getElem?_cons_zero]; exact rfl
    · intro l w'; rw [hSSg, hSSg]; rw [getD_set_ne (i := 6) (j := 22) true (by decide)]; rw [getD_set_ne (i := 6) (j := 23) true (by decide)]
    · rfl
    · intro w' hA; obtain ⟨l, hl, hi, hSl⟩ := hA; have hSl := (hSSg _ _).1 hSl; obtain ⟨hy0, hy1⟩ := hSl; obtain ⟨hz0_0, hz0_1⟩ := hy0 (hl.not (t := 22) (by kernel_rfl) hi); obtain ⟨hz1_0, hz1_1⟩ := hy1 (hl.not (t := 23) (by kernel_rfl) hi); go_simp; try with_reducible rfl
    clear hCl hHeld
    intro hCl hHeld
    simp only [List.setIfInBounds_toArray, List.set_cons_zero, List.set_cons_succ] at hCl hHeld
    try simp only [Act.put]
    try simp only [List.setIfInBounds_toArray, List.set_cons_zero, List.set_cons_succ]
    refine reg_takeG 7 ?_ ?_ ?_ (by kernel_rfl) (by kernel_rfl) (by kernel_rfl) (fun _ _ _ h => h) ?_ ?_ ?_ hCl hHeld ?_
    rotate_left 2
    · simp only [List.getElem?_toArray, List.getElem?_cons_succ, List.getElem?_cons_zero]; exact rfl
    · intro l w'; rw [hSSg, hSSg]; rw [getD_set_ne (i := 7) (j := 22) true (by decide)]; rw [getD_set_ne (i := 7) (j := 23) true (by decide)]
    · rfl
    · intro w' hA; clear hA; go_simp; try with_reducible rfl
    clear hCl hHeld
    intro hCl hHeld
    simp only [List.setIfInBounds_toArray, List.set_cons_zero, List.set_cons_succ] at hCl hHeld
    try simp only [Act.put]
    try simp only [List.setIfInBounds_toArray, List.set_cons_zero, List.set_cons_succ]
    refine reg_takeG 8 ?_ ?_ ?_ (by kernel_rfl) (by kernel_rfl) (by kernel_rfl) (fun _ _ _ h => h) ?_ ?_ ?_ hCl hHeld ?_
    rotate_left 2
    · simp only [List.getElem?_toArray, List.getElem?_cons_succ, List.getElem?_cons_zero]; exact rfl
    · intro l w'; rw [hSSg, hSSg]; rw [getD_set_ne (i := 8) (j := 22) true (by decide)]; rw [getD_set_ne (i := 8) (j := 23) true (by decide)]
    · rfl
    · intro w' hA; obtain ⟨l, hl, hi, hSl⟩ := hA; have hSl := (hSSg _ _).1 hSl; obtain ⟨hy0, hy1⟩ := hSl; obtain ⟨hz0_0, hz0_1⟩ := hy0 (hl.not (t := 22) (by kernel_rfl) hi); obtain ⟨hz1_0, hz1_1⟩ := hy1 (hl.not (t := 23) (by kernel_rfl) hi); go_simp; try with_reducible rfl
    clear hCl hHeld
    intro hCl hHeld
    simp only [List.setIfInBounds_toArray, List.set_cons_zero, List.set_cons_succ] at hCl hHeld
    try simp only [Act.put]
    try simp only [List.setIfInBounds_toArray, List.set_cons_zero, List.set_cons_succ]
    refine reg_takeG 9 ?_ ?_ ?_ (by kernel_rfl) (by kernel_rfl) (by kernel_rfl) (fun _ _ _ h => h) ?_ ?_ ?_ hCl hHeld ?_
    rotate_left 2
    · simp only [List.getElem?_toArray, List.getElem?_cons_succ, List.getElem?_cons_zero]; exact rfl
    · intro l w'; rw [hSSg, hSSg]; rw [getD_set_ne (i := 9) (j := 22) true (by decide)]; rw [getD_set_ne (i := 9) (j := 23) true (by decide)]
    · rfl
    · intro w' hA; clear hA; go_simp; try with_reducible rfl
    clear hCl hHeld
    intro hCl hHeld
    simp only [List.setIfInBounds_toArray, List.set_cons_zero, List.set_cons_succ] at hCl hHeld
    try simp only [Act.put]
    try simp only [List.setIfInBounds_toArray, List.set_cons_zero, List.set_cons_succ]
    refine reg_takeG 10 ?_ ?_ ?_ (by kernel_rfl) (by kernel_rfl) (by kernel_rfl) (fun _ _ _ h => h) ?_ ?_ ?_ hCl hHeld ?_
    rotate_left 2
    · simp only [List.getElem?_toArray, List.getElem?_cons_succ, List.getElem?_cons_zero]; exact rfl
    · intro l w'; rw [hSSg, hSSg]; rw [getD_set_ne (i := 10) (j := 22) true (by decide)]; rw [getD_set_ne (i := 10) (j := 23) true (by decide)]
    · rfl
    · intro w' hA; clear hA; go_simp; try with_reducible rfl
    clear hCl hHeld
    intro hCl hHeld
    simp only [List.setIfInBounds_toArray, List.set_cons_zero, List.set_cons_succ] at hCl hHeld
    try simp only [Act.put]
    try simp only [List.setIfInBounds_toArray, List.set_cons_zero, List.set_cons_succ]
    refine reg_takeG 11 ?_ ?_ ?_ (by kernel_rfl) (by kernel_rfl) (by kernel_rfl) (fun _ _ _ h => h) ?_ ?_ ?_ hCl hHeld ?_
    rotate_left 2
    · simp only [List.getElem?_toArray, List.getElem?_cons_succ, List.getElem?_cons_zero]; exact rfl
    · intro l w'; rw [hSSg, hSSg]; rw [getD_set_ne (i := 11) (j := 22) true (by decide)]; rw [getD_set_ne (i := 11) (j := 23) true (by decide)]
    · rfl
    · intro w' hA; clear hA; go_simp; try with_reducible rfl
    clear hCl hHeld
    intro hCl hHeld
    simp only [List.setIfInBounds_toArray, List.set_cons_zero, List.set_cons_succ] at hCl hHeld
    try simp only [Act.put]
    try simp only [List.setIfInBounds_toArray, List.set_cons_zero, List.set_cons_succ]
    refine reg_takeG 12 ?_ ?_ ?_ (by kernel_rfl) (by kernel_rfl) (by kernel_rfl) (fun _ _ _ h => h) ?_ ?_ ?_ hCl hHeld ?_
    rotate_left 2
    · simp only [List.getElem?_toArray, List.getElem?_cons_succ, List.getElem?_cons_zero]; exact rfl
    · intro l w'; rw [hSSg, hSSg]; rw [getD_set_ne (i := 12) (j := 22) true (by decide)]; rw [getD_set_ne (i := 12) (j := 23) true (by decide)]
    · rfl
    · intro w' hA; obtain ⟨l, hl, hi, hSl⟩ := hA; have hSl := (hSSg _ _).1 hSl; obtain ⟨hy0, hy1⟩ := hSl; obtain ⟨hz0_0, hz0_1⟩ := hy0 (hl.not (t := 22) (by kernel_rfl) hi); obtain ⟨hz1_0, hz1_1⟩ := hy1 (hl.not (t := 23) (by kernel_rfl) hi); go_simp; try with_reducible rfl
    clear hCl hHeld
    intro hCl hHeld
    simp only [List.setIfInBounds_toArray, List.set_cons_zero, List.set_cons_succ] at hCl hHeld
    try simp only [Act.put]
    try simp only [List.setIfInBounds_toArray, List.set_cons_zero, List.set_cons_succ]
    refine reg_takeG 13 ?_ ?_ ?_ (by kernel_rfl) (by kernel_rfl) (by kernel_rfl) (fun _ _ _ h => h) ?_ ?_ ?_ hCl hHeld ?_
    rotate_left 2
    · simp only [List.getElem?_toArray, List.getElem?_cons_succ, List.getElem?_cons_zero]; exact rfl
    · intro l w'; rw [hSSg, hSSg]; rw [getD_set_ne (i := 13) (j := 22) true (by decide)]; rw [getD_set_ne (i := 13) (j := 23) true (by decide)]
    · rfl
    · intro w' hA; clear hA; go_simp; try with_reducible rfl
    clear hCl hHeld
    intro hCl hHeld
    simp only [List.setIfInBounds_toArray, List.set_cons_zero, List.set_cons_succ] at hCl hHeld
    try simp only [Act.put]
    try simp only [List.setIfInBounds_toArray, List.set_cons_zero, List.set_cons_succ]
    refine reg_takeG 14 ?_ ?_ ?_ (by kernel_rfl) (by kernel_rfl) (by kernel_rfl) (fun _ _ _ h => h) ?_ ?_ ?_ hCl hHeld ?_
    rotate_left 2
    · simp only [List.getElem?_toArray, List.getElem?_cons_succ, List.getElem?_cons_zero]; exact rfl
    · intro l w'; rw [hSSg, hSSg]; rw [getD_set_ne (i := 14) (j := 22) true (by decide)]; rw [getD_set_ne (i := 14) (j := 23) true (by decide)]
    · rfl
    · intro w' hA; obtain ⟨l, hl, hi, hSl⟩ := hA; have hSl := (hSSg _ _).1 hSl; obtain ⟨-, hy1⟩ := hSl; obtain ⟨hz1_0, hz1_1⟩ := hy1 (hl.not (t := 23) (by kernel_rfl) hi); go_simp; try with_reducible rfl
    clear hCl hHeld
    intro hCl hHeld
    simp only [List.setIfInBounds_toArray, List.set_cons_zero, List.set_cons_succ] at hCl hHeld
    try simp only [Act.put]
    try simp only [List.setIfInBounds_toArray, List.set_cons_zero, List.set_cons_succ]
    refine reg_takeG 15 ?_ ?_ ?_ (by kernel_rfl) (by kernel_rfl) (by kernel_rfl) (fun _ _ _ h => h) ?_ ?_ ?_ hCl hHeld ?_
    rotate_left 2
    · simp only [List.getElem?_toArray, List.getElem?_cons_succ, List.getElem?_cons_zero]; exact rfl
    · intro l w'; rw [hSSg, hSSg]; rw [getD_set_ne (i := 15) (j := 22) true (by decide)]; rw [getD_set_ne (i := 15) (j := 23) true (by decide)]
    · rfl
    · intro w' hA; clear hA; go_simp; try with_reducible rfl
    clear hCl hHeld
    intro hCl hHeld
    simp only [List.setIfInBounds_toArray, List.set_cons_zero, List.set_cons_succ] at hCl hHeld
    try simp only [Act.put]
    try simp only [List.setIfInBounds_toArray, List.set_cons_zero, List.set_cons_succ]
    refine reg_takeG 16 ?_ ?_ ?_ (by kernel_rfl) (by kernel_rfl) (by kernel_rfl) (fun _ _ _ h => h) ?_ ?_ ?_ hCl hHeld ?_
    rotate_left 2
    · simp only [List.getElem?_toArray, List.getElem?_cons_succ, List.getElem?_cons_zero]; exact rfl
    · intro l w'; rw [hSSg, hSSg]; rw [getD_set_ne (i := 16) (j := 22) true (by decide)]; rw [getD_set_ne (i := 16) (j := 23) true (by decide)]
    · rfl
    · intro w' hA; clear hA; go_simp; try with_reducible rfl
    clear hCl hHeld
    intro hCl hHeld
    simp only [List.setIfInBounds_toArray, List.set_cons_zero, List.set_cons_succ] at hCl hHeld
    try simp only [Act.put]
    try simp only [List.setIfInBounds_toArray, List.set_cons_zero, List.set_cons_succ]
    refine reg_takeG 17 ?_ ?_ ?_ (by kernel_rfl) (by kernel_rfl) (by kernel_rfl) (fun _ _ _ h => h) ?_ ?_ ?_ hCl hHeld ?_
    rotate_left 2
    · simp only [List.getElem?_toArray, List.getElem?_cons_succ, List.getElem?_cons_zero]; exact rfl
    · intro l w'; rw [hSSg, hSSg]; rw [getD_set_ne (i := 17) (j := 22) true (by decide)]; rw [getD_set_ne (i := 17) (j := 23) true (by decide)]
    · rfl
    · intro w' hA; obtain ⟨l, hl, hi, hSl⟩ := hA; have hSl := (hSSg _ _).1 hSl; obtain ⟨hy0, hy1⟩ := hSl; obtain ⟨hz0_0, hz0_1⟩ := hy0 (hl.not (t := 22) (by kernel_rfl) hi); obtain ⟨hz1_0, hz1_1⟩ := hy1 (hl.not (t := 23) (by kernel_rfl) hi); go_simp; try with_reducible rfl
    clear hCl hHeld
    intro hCl hHeld
    simp only [List.setIfInBounds_toArray, List.set_cons_zero, List.set_cons_succ] at hCl hHeld
    try simp only [Act.put]
    try simp only [List.setIfInBounds_toArray, List.set_cons_zero, List.set_cons_succ]
    refine reg_takeG 18 ?_ ?_ ?_ (by kernel_rfl) (by kernel_rfl) (by kernel_rfl) (fun _ _ _ h => h) ?_ ?_ ?_ hCl hHeld ?_
    rotate_left 2
    · simp only [List.getElem?_toArray, List.getElem?_cons_succ, List.getElem?_cons_zero]; exact rfl
    · intro l w'; rw [hSSg, hSSg]; rw [getD_set_ne (i := 18) (j := 22) true (by decide)]; rw [getD_set_ne (i := 18) (j := 23) true (by decide)]
    · rfl
    · intro w' hA; clear hA; go_simp; try with_reducible rfl
    clear hCl hHeld
    intro hCl hHeld
    simp only [List.setIfInBounds_toArray, List.set_cons_zero, List.set_cons_succ] at hCl hHeld
    try simp only [Act.put]
    try simp only [List.setIfInBounds_toArray, List.set_cons_zero, List.set_cons_succ]
    refine reg_takeG 19 ?_ ?_ ?_ (by kernel_rfl) (by kernel_rfl) (by kernel_rfl) (fun _ _ _ h => h) ?_ ?_ ?_ hCl hHeld ?_
    rotate_left 2
    · simp only [List.getElem?_toArray, List.getElem?_cons_succ, List.getElem?_cons_zero]; exact rfl
    · intro l w'; rw [hSSg, hSSg]; rw [getD_set_ne (i := 19) (j := 22) true (by decide)]; rw [getD_set_ne (i := 19) (j := 23) true (by decide)]
    · rfl
    · intro w' hA; obtain ⟨l, hl, hi, hSl⟩ := hA; have hSl := (hSSg _ _).1 hSl; obtain ⟨-, hy1⟩ := hSl; obtain ⟨hz1_0, hz1_1⟩ := hy1 (hl.not (t := 23) (by kernel_rfl) hi); go_simp; try with_reducible rfl
    clear hCl hHeld
    intro hCl hHeld
    simp only [List.setIfInBounds_toArray, List.set_cons_zero, List.set_cons_succ] at hCl hHeld
    try simp only [Act.put]
    try simp only [List.setIfInBounds_toArray, List.set_cons_zero, List.set_cons_succ]
    refine reg_takeG 20 ?_ ?_ ?_ (by kernel_rfl) (by kernel_rfl) (by kernel_rfl) (fun _ _ _ h => h) ?_ ?_ ?_ hCl hHeld ?_
    rotate_left 2
    · simp only [List.getElem?_toArray, List.getElem?_cons_succ, List.getElem?_cons_zero]; exact rfl
    · intro l w'; rw [hSSg, hSSg]; rw [getD_set_ne (i := 20) (j := 22) true (by decide)]; rw [getD_set_ne (i := 20) (j := 23) true (by decide)]
    · rfl
    · intro w' hA; clear hA; go_simp; try with_reducible rfl
    clear hCl hHeld
    intro hCl hHeld
    simp only [List.setIfInBounds_toArray, List.set_cons_zero, List.set_cons_succ] at hCl hHeld
    try simp only [Act.put]
    try simp only [List.setIfInBounds_toArray, List.set_cons_zero, List.set_cons_succ]
    refine reg_takeG 21 ?_ ?_ ?_ (by kernel_rfl) (by kernel_rfl) (by kernel_rfl) (fun _ _ _ h => h) ?_ ?_ ?_ hCl hHeld ?_
    rotate_left 2
    · simp only [List.getElem?_toArray, List.getElem?_cons_succ, List.getElem?_cons_zero]; exact rfl
    · intro l w'; rw [hSSg, hSSg]; rw [getD_set_ne (i := 21) (j := 22) true (by decide)]; rw [getD_set_ne (i := 21) (j := 23) true (by decide)]
    · rfl
    · intro w' hA; clear hA; go_simp; try with_reducible rfl
    clear hCl hHeld
    intro hCl hHeld
    simp only [List.setIfInBounds_toArray, List.set_cons_zero, List.set_cons_succ] at hCl hHeld
    try simp only [Act.put]
    try simp only [List.setIfInBounds_toArray, List.set_cons_zero, List.set_cons_succ]
    clear hCl hHeld
    obtain ⟨sf3a, sf3b, sf3c, sf3d⟩ := pa_3.open2
    obtain ⟨sg3a, sg3b⟩ := Box.put2 pa_3 (.int .i64 c0)
    refine reg_callG 22 ?_ (by kernel_rfl) ?_ (fun K hK => ?_)
    rotate_left 1
    · simp only [List.getElem?_toArray, List.getElem?_cons_succ, List.getElem?_cons_zero]; exact rfl
    go_simp
    have hB_4 := below_setAll hB_3 (g := w.heap.size) (by omega) [.int .i64 c0, .int .i64 c1]
    have pb_4 := pb_3.farAll (g' := w.heap.size) (by omega) [.int .i64 c0, .int .i64 c1]
    have pa_4 := pa_3.setAll [.int .i64 c0, .int .i64 c1] rfl
    simp only [setAll, Nat.zero_add] at hB_4 pa_4 pb_4
    clear sf3a sf3b sf3c sf3d sg3a sg3b
    clear hB_3 pb_3 pa_3
    refine hK.out _ _ ((hSSg _ _).2 ⟨(fun h => absurd h (by decide)), (fun _ => ⟨pb_4.c0, pb_4.c1⟩)⟩) ?_
    clear hK K
    try simp only [Act.put]
    try simp only [List.setIfInBounds_toArray, List.set_cons_zero, List.set_cons_succ]
    generalize (World.setCell (World.setCell w7 ⟨w.heap.size, 0, none⟩ (.int .i64 c0)) ⟨w.heap.size, 1, none⟩ (.int .i64 c1)) = w8 at *
    obtain ⟨sf4a, sf4b, sf4c, sf4d⟩ := pb_4.open2
    obtain ⟨sg4a, sg4b⟩ := Box.put2 pb_4 (.int .i64 d0)
    refine reg_callG 23 ?_ (by kernel_rfl) ?_ (fun K hK => ?_)
    rotate_left 1
    · simp only [List.getElem?_toArray, List.getElem?_cons_succ, List.getElem?_cons_zero]; exact rfl
    go_simp
    have hB_5 := below_setAll hB_4 (g := w.heap.size + 1) (by omega) [.int .i64 d0, .int .i64 c1]
    have pa_5 := pa_4.farAll (g' := w.heap.size + 1) (by omega) [.int .i64 d0, .int .i64 c1]
    have pb_5 := pb_4.setAll [.int .i64 d0, .int .i64 c1] rfl
    simp only [setAll, Nat.zero_add] at hB_5 pa_5 pb_5
    clear sf4a sf4b sf4c sf4d sg4a sg4b
    clear hB_4 pa_4 pb_4
    refine hK.out _ _ ((hSSg _ _).2 ⟨(fun h => absurd h (by decide)), (fun h => absurd h (by decide))⟩) ?_
    clear hK K
    try simp only [Act.put]
    try simp only [List.setIfInBounds_toArray, List.set_cons_zero, List.set_cons_succ]
    generalize (World.setCell (World.setCell w8 ⟨w.heap.size + 1, 0, none⟩ (.int .i64 d0)) ⟨w.heap.size + 1, 1, none⟩ (.int .i64 c1)) = w9 at *
    refine wpAnyG_done (by kernel_rfl) ?_ _
    refine NoPanic.normal ?_
    clear hSSg SSg
    clear em0 em1 ex0 ex1
    obtain ⟨pae0, pae1, pae2, pae3⟩ := pa_5.open2
    obtain ⟨pbe0, pbe1, pbe2, pbe3⟩ := pb_5.open2
    go_wp2
    go_ret
    exact ⟨rfl, hB_5⟩
  · right
    refine ⟨?_, fun i hi => ?_⟩
    · clear zF rr1 rr2 zz0 zz1
      obtain rfl | rfl | rfl : k = 0 ∨ k = 1 ∨ k = 2 := by omega
      all_goals cases bb0
      all_goals cases bb1
      all_goals first | exact absurd ⟨rfl, rfl, rfl⟩ hL | exact absurd (dp0_0 (by decide)) (by decide) | exact absurd (dp1_1 (by decide)) (by decide) | exact of_decide_eq_true (by kernel_rfl)
    have hd : (k = 0 ∧ bb0 = true ∧ i = 1) ∨ (k = 1 ∧ bb1 = true ∧ i = 3) ∨ (bb0 = false ∧ i = 0) ∨ (bb1 = false ∧ i = 2) := by
      clear zF rr1 rr2 zz0 zz1
      revert i
      obtain rfl | rfl | rfl : k = 0 ∨ k = 1 ∨ k = 2 := by omega
      all_goals cases bb0
      all_goals cases bb1
      all_goals first | exact absurd ⟨rfl, rfl, rfl⟩ hL | exact absurd (dp0_0 (by decide)) (by decide) | exact absurd (dp1_1 (by decide)) (by decide) | exact of_decide_eq_true (by kernel_rfl)
    clear hi hL
    rcases hd with ⟨rfl, rfl, rfl⟩ | ⟨rfl, rfl, rfl⟩ | ⟨rfl, rfl⟩ | ⟨rfl, rfl⟩
    · obtain rfl := zz0 rfl
      refine step_of 1 ?_ ?_ (fun K hK => ?_)
      rotate_left 1
      · simp only [List.getElem?_toArray, List.getElem?_cons_succ, List.getElem?_cons_zero]; exact rfl
      rw [HAi.out]
      try simp only [Act.put]
      try simp only [List.setIfInBounds_toArray, List.set_cons_zero, List.set_cons_succ]
      go_simp
      refine (TM0.out _).mono ?_
      rintro e w10 ⟨rfl, hb⟩
      go_wp2_with fail
      refine hK.out _ _ (sFi (cFi zF hb)) ?_
      exact (hIVi _ _ _).2 ⟨1, true, bb1, (.agg #[.int .i64 a0, .int .i64 a1]), v1_, _, p1_, (by omega), rfl, (by simp only [HAi.out, Act.put, List.setIfInBounds_toArray, List.set_cons_zero, List.set_cons_succ]), (cFi zF hb), (fun _ => rfl), (fun h => absurd h (by omega)), (fun _ => rfl), zz1, (fun _ => rfl), (fun h => absurd h (by omega))⟩
    · obtain rfl := rr1 (by omega)
      obtain rfl := dp0_0 (by omega)
      obtain rfl := zz0 rfl
      obtain rfl := zz1 rfl
      refine step_of 3 ?_ ?_ (fun K hK => ?_)
      rotate_left 1
      · simp only [List.getElem?_toArray, List.getElem?_cons_succ, List.getElem?_cons_zero]; exact rfl
      rw [HAi.out]
      try simp only [Act.put]
      try simp only [List.setIfInBounds_toArray, List.set_cons_zero, List.set_cons_succ]
      go_simp
      refine (TM1.out _).mono ?_
      rintro e w11 ⟨rfl, hb⟩
      go_wp2_with fail
      refine hK.out _ _ (sFi (cFi zF hb)) ?_
      exact (hIVi _ _ _).2 ⟨2, true, true, _, (.agg #[.int .i64 b0, .int .i64 b1]), _, _, (by omega), rfl, (by simp only [HAi.out, Act.put, List.setIfInBounds_toArray, List.set_cons_zero, List.set_cons_succ]), (cFi zF hb), (fun _ => rfl), (fun _ => rfl), (fun _ => rfl), (fun _ => rfl), (fun _ => rfl), (fun _ => rfl)⟩
    · obtain ⟨-, pa_0, -, -⟩ := (hFFi _).1 zF
      obtain ⟨pae0, pae1, pae2, pae3⟩ := pa_0.open2
      refine step_of 0 ?_ ?_ (fun K hK => ?_)
      rotate_left 1
      · simp only [List.getElem?_toArray, List.getElem?_cons_zero]; exact rfl
      rw [HAi.out]
      try simp only [Act.put]
      try simp only [List.setIfInBounds_toArray, List.set_cons_zero, List.set_cons_succ]
      go_simp
      refine hK.out _ _ (sFi zF) ?_
      exact (hIVi _ _ _).2 ⟨k, true, bb1, v0_, v1_, (.agg #[.int .i64 x0, .int .i64 x1]), p1_, hk, rfl, (by simp only [HAi.out, Act.put, List.setIfInBounds_toArray, List.set_cons_zero, List.set_cons_succ]), zF, rr1, rr2, (fun _ => rfl), zz1, (fun _ => rfl), dp1_1⟩
    · obtain ⟨-, -, pb_0, -⟩ := (hFFi _).1 zF
      obtain ⟨pbe0, pbe1, pbe2, pbe3⟩ := pb_0.open2
      refine step_of 2 ?_ ?_ (fun K hK => ?_)
      rotate_left 1
      · simp only [List.getElem?_toArray, List.getElem?_cons_succ, List.getElem?_cons_zero]; exact rfl
      rw [HAi.out]
      try simp only [Act.put]
      try simp only [List.setIfInBounds_toArray, List.set_cons_zero, List.set_cons_succ]
      go_simp
      refine hK.out _ _ (sFi zF) ?_
      exact (hIVi _ _ _).2 ⟨k, bb0, true, v0_, v1_, p0_, (.agg #[.int .i64 y0, .int .i64 y1]), hk, rfl, (by simp only [HAi.out, Act.put, List.setIfInBounds_toArray, List.set_cons_zero, List.set_cons_succ]), zF, rr1, rr2, zz0, (fun _ => rfl), dp0_0, (fun _ => rfl)⟩
set_option maxRecDepth 100000 in
set_option maxHeartbeats 64000000 in
theorem PredSquares_w_at (x0 x1 y0 y1 a0 a1 b0 b1 : Int) (c0 c1 d0 d1 r0 r1 h0 h1 m0 m1 t k f0 s : Int) (tm0 : ∀ w, Calls Try.prog 10 #[.agg #[.int .i64 x0, .int .i64 x1]] w fun e w' => e = .returned (.agg #[.int .i64 a0, .int .i64 a1]) ∧ Below w.heap.size w w') (tm1 : ∀ w, Calls Try.prog 10 #[.agg #[.int .i64 y0, .int .i64 y1]] w fun e w' => e = .returned (.agg #[.int .i64 b0, .int .i64 b1]) ∧ Below w.heap.size w w') (k1 : ∀ w, Calls Try.prog 17 #[.agg #[.int .i64 c0, .int .i64 c1], .agg #[.int .i64 d0, .int .i64 c1], .agg #[.int .i64 d0, .int .i64 d1], .agg #[.int .i64 c0, .int .i64 d1]] w fun e w' => e = .returned (.int .i64 0) ∧ Below w.heap.size w w') (k2 : ∀ w, Calls Try.prog 17 #[.agg #[.int .i64 d0, .int .i64 c1], .agg #[.int .i64 d0, .int .i64 d1], .agg #[.int .i64 c0, .int .i64 d1], .agg #[.int .i64 c0, .int .i64 c1]] w fun e w' => e = .returned (.int .i64 0) ∧ Below w.heap.size w w') (k4 : ∀ w, Calls Try.prog 17 #[.agg #[.int .i64 c0, .int .i64 c1], .agg #[.int .i64 d0, .int .i64 c1], .agg #[.int .i64 d0, .int .i64 d1], .agg #[.int .i64 f0, .int .i64 d1]] w fun e w' => e = .returned (.int .i64 s) ∧ Below w.heap.size w w') (em0 : (if b0 < a0 then b0 else a0) = c0) (em1 : (if b1 < a1 then b1 else a1) = c1) (ex0 : (if a0 < b0 then b0 else a0) = d0) (ex1 : (if a1 < b1 then b1 else a1) = d1) (_nx : decide (c0 = d0) = false) (nx' : (c0 == d0) = false) (_ny : decide (c1 = d1) = false) (ny' : (c1 == d1) = false) (e1 : IntKind.i64.wrap (d0 - c0) = r0) (e2 : IntKind.i64.wrap (d1 - c1) = r1) (e3 : IntKind.i64.wrap (r0.tdiv 2) = h0) (e4 : IntKind.i64.wrap (r1.tdiv 2) = h1) (e5 : IntKind.i64.wrap (c0 + h0) = m0) (e6 : IntKind.i64.wrap (c1 + h1) = m1) (e7 : IntKind.i64.wrap (c0 + 2147483648) = t) (e8 : (if t < 1 then t else 1) = k) (e9 : IntKind.i64.wrap (c0 - k) = f0) (e10 : IntKind.i64.wrap (-k) = s) (nm : ∀ w : World, (if m0 = c0 then if m1 = c1 then Result.ok (Next.value (Value.bool false)) w else Result.ok (Next.value (Value.bool true)) w else Result.ok (Next.value (Value.bool true)) w) = Result.ok (Next.value (Value.bool false)) w) (w : World) :
    Calls Try.prog 5 #[.agg #[.int .i64 x0, .int .i64 x1], .agg #[.int .i64 y0, .int .i64 y1]] w fun e w' => e = .returned (.bool true) ∧ Below w.heap.size w w' := by
  have hB_0 := Below.refl w.heap.size w
  have TM0 := Lib.hid tm0; have TM1 := Lib.hid tm1; have K1 := Lib.hid k1; have K2 := Lib.hid k2; have K4 := Lib.hid k4; have EM0 := Lib.hid em0; have EM1 := Lib.hid em1; have EX0 := Lib.hid ex0; have EX1 := Lib.hid ex1; have E1 := Lib.hid e1; have E2 := Lib.hid e2; have E3 := Lib.hid e3; have E4 := Lib.hid e4; have E5 := Lib.hid e5; have E6 := Lib.hid e6; have E7 := Lib.hid e7; have E8 := Lib.hid e8; have E9 := Lib.hid e9; have E10 := Lib.hid e10; have NM := Lib.hid nm
  clear tm0 tm1 k1 k2 k4 em0 em1 ex0 ex1 e1 e2 e3 e4 e5 e6 e7 e8 e9 e10 nm
  obtain ⟨w1, hw1, pa_0, hb1, hs1⟩ := new_box w (w.heap.size) rfl [.int .i64 x0, .int .i64 x1] 23
  have hb1' : Below w.heap.size w w1 := hb1.mono (by omega)
  clear hb1
  have hB_1 := hB_0.trans (hb1'.mono hB_0.size)
  clear hb1' hB_0
  obtain ⟨w2, hw2, pb_0, hb2, hs2⟩ := new_box w1 (w.heap.size + 1) hs1 [.int .i64 y0, .int .i64 y1] 23
  have hb2' : Below w1.heap.size w1 w2 := hb2.mono (by omega)
  clear hb2
  have hB_2 := hB_1.trans (hb2'.mono hB_1.size)
  have pa_1 := pa_0.below hb2'
  clear hb2' hB_1 pa_0
  go_enter Try.func5, Try.ntmps5
  obtain ⟨pae0, pae1, pae2, pae3⟩ := pa_1.open2
  obtain ⟨pbe0, pbe1, pbe2, pbe3⟩ := pb_0.open2
  go_wp2_with fail
  refine (pfit_any _).mono ?_
  rintro e w3 ⟨rfl, hb3⟩
  clear pae0 pae1 pae2 pae3 pbe0 pbe1 pbe2 pbe3
  have hB_3 := hB_2.trans (hb3.mono hB_2.size)
  have pa_2 := pa_1.below hb3
  have pb_1 := pb_0.below hb3
  clear hb3 hB_2 pa_1 pb_0
  obtain ⟨pae0, pae1, pae2, pae3⟩ := pa_2.open2
  obtain ⟨pbe0, pbe1, pbe2, pbe3⟩ := pb_1.open2
  go_wp2
  clear pae0 pae1 pae2 pae3 pbe0 pbe1 pbe2 pbe3
  have hWi_0 := Below.refl w3.heap.size w3
  have hsi : w.heap.size ≤ w3.heap.size := hB_3.size
  have hlipa := pa_2.lt
  have hlipb := pb_1.lt
  have hB_4 := hB_3.drew'
  have pa_3 := pa_2.drew
  have pb_2 := pb_1.drew
  have hWi_1 := hWi_0.drew'
  clear hB_3 pa_2 pb_1 hWi_0
  obtain ⟨FFi, hFFi⟩ : ∃ F : World → Prop, ∀ w', F w' ↔ (Below w.heap.size w w' ∧ Box w' (w.heap.size) [.int .i64 x0, .int .i64 x1] ∧ Box w' (w.heap.size + 1) [.int .i64 y0, .int .i64 y1] ∧ Below w3.heap.size w3 w') := ⟨_, fun _ => Iff.rfl⟩
  have cFi : ∀ {w' w'' : World}, FFi w' → Below w'.heap.size w' w'' → FFi w'' := by
    intro w' w'' h hb
    obtain ⟨y0, y1, y2, y3⟩ := (hFFi _).1 h
    exact (hFFi _).2 ⟨y0.trans (hb.mono y0.size), y1.below hb, y2.below hb, y3.trans (hb.mono y3.size)⟩
  have mFi : ∀ {w' : World}, FFi w' → w3.heap.size ≤ w'.heap.size := by
    intro w' h
    obtain ⟨y0, y1, y2, y3⟩ := (hFFi _).1 h
    exact y3.size
  have sFi : ∀ {w' : World}, FFi w' → (True) := by
    intro w' h
    obtain ⟨y0, y1, y2, y3⟩ := (hFFi _).1 h
    exact trivial
  have zF : FFi w3.drew := (hFFi _).2 ⟨hB_4, pa_3, pb_2, hWi_1⟩
  clear hB_4 pa_3 pb_2 hWi_1
  refine wp_region_noPanic ?_
  refine wp_region_held_drew (S := fun w' => True) (by kernel_rfl) (sFi zF) (fun hHeld => ?_)
  refine reg_grab (fun WWi ai hWW hAA => ?_)
  rw [hWW]
  have HAi := Lib.hid hAA; clear hWW hAA hHeld
  obtain ⟨IVi, hIVi⟩ : ∃ IV : Array Bool → Act → World → Prop, ∀ l a w', IV l a w' ↔ ∃ (k : Nat) (bb0 bb1 : Bool) (v0_ v1_ p0_ p1_ : Value), k ≤ 2 ∧ l = #[bb0, decide (1 ≤ k), bb1, decide (2 ≤ k), false, false] ∧ a = ((((ai.put (some 14) v0_).put (some 16) v1_).put (some 13) p0_).put (some 15) p1_) ∧ FFi w' ∧ (1 ≤ k → v0_ = .agg #[.int .i64 a0, .int .i64 a1]) ∧ (2 ≤ k → v1_ = .agg #[.int .i64 b0, .int .i64 b1]) ∧ (bb0 = true → p0_ = .agg #[.int .i64 x0, .int .i64 x1]) ∧ (bb1 = true → p1_ = .agg #[.int .i64 y0, .int .i64 y1]) ∧ (1 ≤ k → bb0 = true) ∧ (2 ≤ k → bb1 = true) := ⟨_, fun _ _ _ => Iff.rfl⟩
  refine wpAnyH_until IVi ?_ _ _ _ _ ((hIVi _ _ _).2 ⟨0, false, false, (ai.tmps.getD 14 undef), (ai.tmps.getD 16 undef), (ai.tmps.getD 13 undef), (ai.tmps.getD 15 undef), Nat.zero_le _, rfl, (by simp only [put_same]), zF, (fun h => absurd h (by omega)), (fun h => absurd h (by omega)), (fun h => by cases h), (fun h => by cases h), (fun h => absurd h (by omega)), (fun h => absurd h (by omega))⟩) (by kernel_rfl)
  clear zF
  intro ll aa w4 hI
  obtain ⟨k, bb0, bb1, v0_, v1_, p0_, p1_, hk, rfl, rfl, zF, rr1, rr2, zz0, zz1, dp0_0, dp1_1⟩ := (hIVi _ _ _).1 hI
  clear hI
  by_cases hL : k = 2 ∧ bb0 = true ∧ bb1 = true
  · left
    obtain ⟨rfl, rfl, rfl⟩ := hL
    obtain rfl := rr1 (by omega)
    obtain rfl := rr2 (by omega)
    obtain rfl := zz0 rfl
    obtain rfl := zz1 rfl
    clear hk dp0_0 dp1_1
    show wpAnyH _ _ _ _ _ 2 _ _ _
    rw [HAi.out]
    try simp only [Act.put]
    try simp only [List.setIfInBounds_toArray, List.set_cons_zero, List.set_cons_succ]
    obtain ⟨hB_0, pa_0, pb_0, hWi_0⟩ := (hFFi _).1 zF
    clear zF
    clear hWi_0
    obtain ⟨sf1a, sf1b, sf1c, sf1d⟩ := pa_0.open2
    obtain ⟨sg1a, sg1b⟩ := Box.put2 pa_0 (.int .i64 a0)
    refine reg_call 4 ?_ (by kernel_rfl) ?_ (fun K hK => ?_)
    rotate_left 1
    · simp only [List.getElem?_toArray, List.getElem?_cons_succ, List.getElem?_cons_zero]; exact rfl
    go_simp
    have hB_1 := below_setAll hB_0 (g := w.heap.size) (by omega) [.int .i64 a0, .int .i64 a1]
    have pb_1 := pb_0.farAll (g' := w.heap.size) (by omega) [.int .i64 a0, .int .i64 a1]
    have pa_1 := pa_0.setAll [.int .i64 a0, .int .i64 a1] rfl
    simp only [setAll, Nat.zero_add] at hB_1 pa_1 pb_1
    clear sf1a sf1b sf1c sf1d sg1a sg1b
    clear hB_0 pb_0 pa_0
    refine hK.out _ _ trivial (fun hHeld => ?_)
    clear hK K
    try simp only [Act.put]
    try simp only [List.setIfInBounds_toArray, List.set_cons_zero, List.set_cons_succ]
    generalize (World.setCell (World.setCell w4 ⟨w.heap.size, 0, none⟩ (.int .i64 a0)) ⟨w.heap.size, 1, none⟩ (.int .i64 a1)) = w5 at *
    obtain ⟨sf2a, sf2b, sf2c, sf2d⟩ := pb_1.open2
    obtain ⟨sg2a, sg2b⟩ := Box.put2 pb_1 (.int .i64 b0)
    refine reg_call 5 ?_ (by kernel_rfl) ?_ (fun K hK => ?_)
    rotate_left 1
    · simp only [List.getElem?_toArray, List.getElem?_cons_succ, List.getElem?_cons_zero]; exact rfl
    go_simp
    have hB_2 := below_setAll hB_1 (g := w.heap.size + 1) (by omega) [.int .i64 b0, .int .i64 b1]
    have pa_2 := pa_1.farAll (g' := w.heap.size + 1) (by omega) [.int .i64 b0, .int .i64 b1]
    have pb_2 := pb_1.setAll [.int .i64 b0, .int .i64 b1] rfl
    simp only [setAll, Nat.zero_add] at hB_2 pa_2 pb_2
    clear sf2a sf2b sf2c sf2d sg2a sg2b
    clear hB_1 pa_1 pb_1
    refine hK.out _ _ trivial (fun hHeld => ?_)
    clear hK K
    try simp only [Act.put]
    try simp only [List.setIfInBounds_toArray, List.set_cons_zero, List.set_cons_succ]
    generalize (World.setCell (World.setCell w5 ⟨w.heap.size + 1, 0, none⟩ (.int .i64 b0)) ⟨w.heap.size + 1, 1, none⟩ (.int .i64 b1)) = w6 at *
    refine wpAnyH_done (by kernel_rfl) ?_ _
    refine NoPanic.normal ?_
    obtain ⟨pae0, pae1, pae2, pae3⟩ := pa_2.open2
    obtain ⟨pbe0, pbe1, pbe2, pbe3⟩ := pb_2.open2
    try go_wp2
    have em0 := EM0.out
    have em1 := EM1.out
    have ex0 := EX0.out
    have ex1 := EX1.out
    clear pae0 pae1 pae2 pae3 pbe0 pbe1 pbe2 pbe3
    have hB_3 := hB_2.drew'
    clear hB_2
    have pa_3 := pa_2.drew
    clear pa_2
    have pb_3 := pb_2.drew
    clear pb_2
    obtain ⟨SSg, hSSg⟩ : ∃ S : Array Bool → World → Prop, ∀ l w', S l w' ↔ ((l.getD 22 true = false → w'.cell? ⟨w.heap.size, 0, none⟩ = some (.int .i64 a0) ∧ w'.cell? ⟨w.heap.size, 1, none⟩ = some (.int .i64 a1)) ∧ (l.getD 23 true = false → w'.cell? ⟨w.heap.size + 1, 0, none⟩ = some (.int .i64 b0) ∧ w'.cell? ⟨w.heap.size + 1, 1, none⟩ = some (.int .i64 b1))) := ⟨_, fun _ _ => Iff.rfl⟩
    refine wp_region_noPanic ?_
    refine wp_region_G SSg 24 #[false, false, false, false, false, false, false, false, false, false, false, false, false, false, false, false, false, false, false, false, false, false, false, false] (by kernel_rfl) (by kernel_rfl) (by kernel_rfl) ((hSSg _ _).2 ⟨(fun _ => ⟨pa_3.c0, pa_3.c1⟩), (fun _ => ⟨pb_3.c0, pb_3.c1⟩)⟩) (fun hCl hHeld => ?_)
    generalize w6.drew = w7 at *
    refine reg_takeG 0 ?_ ?_ ?_ (by kernel_rfl) (by kernel_rfl) (by kernel_rfl) (fun _ _ _ h => h) ?_ ?_ ?_ hCl hHeld ?_
    rotate_left 2
    · simp only [List.getElem?_toArray, List.getElem?_cons_zero]; exact rfl
    · intro l w'; rw [hSSg, hSSg]; rw [getD_set_ne (i := 0) (j := 22) true (by decide)]; rw [getD_set_ne (i := 0) (j := 23) true (by decide)]
    · rfl
    · intro w' hA; clear hA; go_simp; try with_reducible rfl
    clear hCl hHeld
    intro hCl hHeld
    simp only [List.setIfInBounds_toArray, List.set_cons_zero] at hCl hHeld
    try simp only [Act.put]
    try simp only [List.setIfInBounds_toArray, List.set_cons_zero, List.set_cons_succ]
    refine reg_takeG 1 ?_ ?_ ?_ (by kernel_rfl) (by kernel_rfl) (by kernel_rfl) (fun _ _ _ h => h) ?_ ?_ ?_ hCl hHeld ?_
    rotate_left 2
    · simp only [List.getElem?_toArray, List.getElem?_cons_succ, List.getElem?_cons_zero]; exact rfl
    · intro l w'; rw [hSSg, hSSg]; rw [getD_set_ne (i := 1) (j := 22) true (by decide)]; rw [getD_set_ne (i := 1) (j := 23) true (by decide)]
    · rfl
    · intro w' hA; obtain ⟨l, hl, hi, hSl⟩ := hA; have hSl := (hSSg _ _).1 hSl; obtain ⟨hy0, hy1⟩ := hSl; obtain ⟨hz0_0, hz0_1⟩ := hy0 (hl.not (t := 22) (by kernel_rfl) hi); obtain ⟨hz1_0, hz1_1⟩ := hy1 (hl.not (t := 23) (by kernel_rfl) hi); go_simp; try with_reducible rfl
    clear hCl hHeld
    intro hCl hHeld
    simp only [List.setIfInBounds_toArray, List.set_cons_zero, List.set_cons_succ] at hCl hHeld
    try simp only [Act.put]
    try simp only [List.setIfInBounds_toArray, List.set_cons_zero, List.set_cons_succ]
    refine reg_takeG 2 ?_ ?_ ?_ (by kernel_rfl) (by kernel_rfl) (by kernel_rfl) (fun _ _ _ h => h) ?_ ?_ ?_ hCl hHeld ?_
    rotate_left 2
    · simp only [List.getElem?_toArray, List.getElem?_cons_succ, List.getElem?_cons_zero]; exact rfl
    · intro l w'; rw [hSSg, hSSg]; rw [getD_set_ne (i := 2) (j := 22) true (by decide)]; rw [getD_set_ne (i := 2) (j := 23) true (by decide)]
    · rfl
    · intro w' hA; clear hA; go_simp; try with_reducible rfl
    clear hCl hHeld
    intro hCl hHeld
    simp only [List.setIfInBounds_toArray, List.set_cons_zero, List.set_cons_succ] at hCl hHeld
    try simp only [Act.put]
    try simp only [List.setIfInBounds_toArray, List.set_cons_zero, List.set_cons_succ]
    refine reg_takeG 3 ?_ ?_ ?_ (by kernel_rfl) (by kernel_rfl) (by kernel_rfl) (fun _ _ _ h => h) ?_ ?_ ?_ hCl hHeld ?_
    rotate_left 2
    · simp only [List.getElem?_toArray, List.getElem?_cons_succ, List.getElem?_cons_zero]; exact rfl
    · intro l w'; rw [hSSg, hSSg]; rw [getD_set_ne (i := 3) (j := 22) true (by decide)]; rw [getD_set_ne (i := 3) (j := 23) true (by decide)]
    · rfl
    · intro w' hA; obtain ⟨l, hl, hi, hSl⟩ := hA; have hSl := (hSSg _ _).1 hSl; obtain ⟨hy0, hy1⟩ := hSl; obtain ⟨hz0_0, hz0_1⟩ := hy0 (hl.not (t := 22) (by kernel_rfl) hi); obtain ⟨hz1_0, hz1_1⟩ := hy1 (hl.not (t := 23) (by kernel_rfl) hi); go_simp; try with_reducible rfl
    clear hCl hHeld
    intro hCl hHeld
    simp only [List.setIfInBounds_toArray, List.set_cons_zero, List.set_cons_succ] at hCl hHeld
    try simp only [Act.put]
    try simp only [List.setIfInBounds_toArray, List.set_cons_zero, List.set_cons_succ]
    refine reg_takeG 4 ?_ ?_ ?_ (by kernel_rfl) (by kernel_rfl) (by kernel_rfl) (fun _ _ _ h => h) ?_ ?_ ?_ hCl hHeld ?_
    rotate_left 2
    · simp only [List.getElem?_toArray, List.getElem?_cons_succ, List.getElem?_cons_zero]; exact rfl
    · intro l w'; rw [hSSg, hSSg]; rw [getD_set_ne (i := 4) (j := 22) true (by decide)]; rw [getD_set_ne (i := 4) (j := 23) true (by decide)]
    · rfl
    · intro w' hA; clear hA; go_simp; try with_reducible rfl
    clear hCl hHeld
    intro hCl hHeld
    simp only [List.setIfInBounds_toArray, List.set_cons_zero, List.set_cons_succ] at hCl hHeld
    try simp only [Act.put]
    try simp only [List.setIfInBounds_toArray, List.set_cons_zero, List.set_cons_succ]
    refine reg_takeG 5 ?_ ?_ ?_ (by kernel_rfl) (by kernel_rfl) (by kernel_rfl) (fun _ _ _ h => h) ?_ ?_ ?_ hCl hHeld ?_
    rotate_left 2
    · simp only [List.getElem?_toArray, List.getElem?_cons_succ, List.getElem?_cons_zero]; exact rfl
    · intro l w'; rw [hSSg, hSSg]; rw [getD_set_ne (i := 5) (j := 22) true (by decide)]; rw [getD_set_ne (i := 5) (j := 23) true (by decide)]
    · rfl
    · intro w' hA; clear hA; go_simp; try with_reducible rfl
    clear hCl hHeld
    intro hCl hHeld
    simp only [List.setIfInBounds_toArray, List.set_cons_zero, List.set_cons_succ] at hCl hHeld
    try simp only [Act.put]
    try simp only [List.setIfInBounds_toArray, List.set_cons_zero, List.set_cons_succ]
    refine reg_takeG 6 ?_ ?_ ?_ (by kernel_rfl) (by kernel_rfl) (by kernel_rfl) (fun _ _ _ h => h) ?_ ?_ ?_ hCl hHeld ?_
    rotate_left 2
    · simp only [List.getElem?_toArray, List.getElem?_cons_succ, List.getElem?_cons_zero]; exact rfl
    · intro l w'; rw [hSSg, hSSg]; rw [getD_set_ne (i := 6) (j := 22) true (by decide)]; rw [getD_set_ne (i := 6) (j := 23) true (by decide)]
    · rfl
    · intro w' hA; obtain ⟨l, hl, hi, hSl⟩ := hA; have hSl := (hSSg _ _).1 hSl; obtain ⟨hy0, hy1⟩ := hSl; obtain ⟨hz0_0, hz0_1⟩ := hy0 (hl.not (t := 22) (by kernel_rfl) hi); obtain ⟨hz1_0, hz1_1⟩ := hy1 (hl.not (t := 23) (by kernel_rfl) hi); go_simp; try with_reducible rfl
    clear hCl hHeld
    intro hCl hHeld
    simp only [List.setIfInBounds_toArray, List.set_cons_zero, List.set_cons_succ] at hCl hHeld
    try simp only [Act.put]
    try simp only [List.setIfInBounds_toArray, List.set_cons_zero, List.set_cons_succ]
    refine reg_takeG 7 ?_ ?_ ?_ (by kernel_rfl) (by kernel_rfl) (by kernel_rfl) (fun _ _ _ h => h) ?_ ?_ ?_ hCl hHeld ?_
    rotate_left 2
    · simp only [List.getElem?_toArray, List.getElem?_cons_succ, List.getElem?_cons_zero]; exact rfl
    · intro l w'; rw [hSSg, hSSg]; rw [getD_set_ne (i := 7) (j := 22) true (by decide)]; rw [getD_set_ne (i := 7) (j := 23) true (by decide)]
    · rfl
    · intro w' hA; clear hA; go_simp; try with_reducible rfl
    clear hCl hHeld
    intro hCl hHeld
    simp only [List.setIfInBounds_toArray, List.set_cons_zero, List.set_cons_succ] at hCl hHeld
    try simp only [Act.put]
    try simp only [List.setIfInBounds_toArray, List.set_cons_zero, List.set_cons_succ]
    refine reg_takeG 8 ?_ ?_ ?_ (by kernel_rfl) (by kernel_rfl) (by kernel_rfl) (fun _ _ _ h => h) ?_ ?_ ?_ hCl hHeld ?_
    rotate_left 2
    · simp only [List.getElem?_toArray, List.getElem?_cons_succ, List.getElem?_cons_zero]; exact rfl
    · intro l w'; rw [hSSg, hSSg]; rw [getD_set_ne (i := 8) (j := 22) true (by decide)]; rw [getD_set_ne (i := 8) (j := 23) true (by decide)]
    · rfl
    · intro w' hA; obtain ⟨l, hl, hi, hSl⟩ := hA; have hSl := (hSSg _ _).1 hSl; obtain ⟨hy0, hy1⟩ := hSl; obtain ⟨hz0_0, hz0_1⟩ := hy0 (hl.not (t := 22) (by kernel_rfl) hi); obtain ⟨hz1_0, hz1_1⟩ := hy1 (hl.not (t := 23) (by kernel_rfl) hi); go_simp; try with_reducible rfl
    clear hCl hHeld
    intro hCl hHeld
    simp only [List.setIfInBounds_toArray, List.set_cons_zero, List.set_cons_succ] at hCl hHeld
    try simp only [Act.put]
    try simp only [List.setIfInBounds_toArray, List.set_cons_zero, List.set_cons_succ]
    refine reg_takeG 9 ?_ ?_ ?_ (by kernel_rfl) (by kernel_rfl) (by kernel_rfl) (fun _ _ _ h => h) ?_ ?_ ?_ hCl hHeld ?_
    rotate_left 2
    · simp only [List.getElem?_toArray, List.getElem?_cons_succ, List.getElem?_cons_zero]; exact rfl
    · intro l w'; rw [hSSg, hSSg]; rw [getD_set_ne (i := 9) (j := 22) true (by decide)]; rw [getD_set_ne (i := 9) (j := 23) true (by decide)]
    · rfl
    · intro w' hA; clear hA; go_simp; try with_reducible rfl
    clear hCl hHeld
    intro hCl hHeld
    simp only [List.setIfInBounds_toArray, List.set_cons_zero, List.set_cons_succ] at hCl hHeld
    try simp only [Act.put]
    try simp only [List.setIfInBounds_toArray, List.set_cons_zero, List.set_cons_succ]
    refine reg_takeG 10 ?_ ?_ ?_ (by kernel_rfl) (by kernel_rfl) (by kernel_rfl) (fun _ _ _ h => h) ?_ ?_ ?_ hCl hHeld ?_
    rotate_left 2
    · simp only [List.getElem?_toArray, List.getElem?_cons_succ, List.getElem?_cons_zero]; exact rfl
    · intro l w'; rw [hSSg, hSSg]; rw [getD_set_ne (i := 10) (j := 22) true (by decide)]; rw [getD_set_ne (i := 10) (j := 23) true (by decide)]
    · rfl
    · intro w' hA; clear hA; go_simp; try with_reducible rfl
    clear hCl hHeld
    intro hCl hHeld
    simp only [List.setIfInBounds_toArray, List.set_cons_zero, List.set_cons_succ] at hCl hHeld
    try simp only [Act.put]
    try simp only [List.setIfInBounds_toArray, List.set_cons_zero, List.set_cons_succ]
    refine reg_takeG 11 ?_ ?_ ?_ (by kernel_rfl) (by kernel_rfl) (by kernel_rfl) (fun _ _ _ h => h) ?_ ?_ ?_ hCl hHeld ?_
    rotate_left 2
    · simp only [List.getElem?_toArray, List.getElem?_cons_succ, List.getElem?_cons_zero]; exact rfl
    · intro l w'; rw [hSSg, hSSg]; rw [getD_set_ne (i := 11) (j := 22) true (by decide)]; rw [getD_set_ne (i := 11) (j := 23) true (by decide)]
    · rfl
    · intro w' hA; clear hA; go_simp; try with_reducible rfl
    clear hCl hHeld
    intro hCl hHeld
    simp only [List.setIfInBounds_toArray, List.set_cons_zero, List.set_cons_succ] at hCl hHeld
    try simp only [Act.put]
    try simp only [List.setIfInBounds_toArray, List.set_cons_zero, List.set_cons_succ]
    refine reg_takeG 12 ?_ ?_ ?_ (by kernel_rfl) (by kernel_rfl) (by kernel_rfl) (fun _ _ _ h => h) ?_ ?_ ?_ hCl hHeld ?_
    rotate_left 2
    · simp only [List.getElem?_toArray, List.getElem?_cons_succ, List.getElem?_cons_zero]; exact rfl
    · intro l w'; rw [hSSg, hSSg]; rw [getD_set_ne (i := 12) (j := 22) true (by decide)]; rw [getD_set_ne (i := 12) (j := 23) true (by decide)]
    · rfl
    · intro w' hA; obtain ⟨l, hl, hi, hSl⟩ := hA; have hSl := (hSSg _ _).1 hSl; obtain ⟨hy0, hy1⟩ := hSl; obtain ⟨hz0_0, hz0_1⟩ := hy0 (hl.not (t := 22) (by kernel_rfl) hi); obtain ⟨hz1_0, hz1_1⟩ := hy1 (hl.not (t := 23) (by kernel_rfl) hi); go_simp; try with_reducible rfl
    clear hCl hHeld
    intro hCl hHeld
    simp only [List.setIfInBounds_toArray, List.set_cons_zero, List.set_cons_succ] at hCl hHeld
    try simp only [Act.put]
    try simp only [List.setIfInBounds_toArray, List.set_cons_zero, List.set_cons_succ]
    refine reg_takeG 13 ?_ ?_ ?_ (by kernel_rfl) (by kernel_rfl) (by kernel_rfl) (fun _ _ _ h => h) ?_ ?_ ?_ hCl hHeld ?_
    rotate_left 2
    · simp only [List.getElem?_toArray, List.getElem?_cons_succ, List.getElem?_cons_zero]; exact rfl
    · intro l w'; rw [hSSg, hSSg]; rw [getD_set_ne (i := 13) (j := 22) true (by decide)]; rw [getD_set_ne (i := 13) (j := 23) true (by decide)]
    · rfl
    · intro w' hA; clear hA; go_simp; try with_reducible rfl
    clear hCl hHeld
    intro hCl hHeld
    simp only [List.setIfInBounds_toArray, List.set_cons_zero, List.set_cons_succ] at hCl hHeld
    try simp only [Act.put]
    try simp only [List.setIfInBounds_toArray, List.set_cons_zero, List.set_cons_succ]
    refine reg_takeG 14 ?_ ?_ ?_ (by kernel_rfl) (by kernel_rfl) (by kernel_rfl) (fun _ _ _ h => h) ?_ ?_ ?_ hCl hHeld ?_
    rotate_left 2
    · simp only [List.getElem?_toArray, List.getElem?_cons_succ, List.getElem?_cons_zero]; exact rfl
    · intro l w'; rw [hSSg, hSSg]; rw [getD_set_ne (i := 14) (j := 22) true (by decide)]; rw [getD_set_ne (i := 14) (j := 23) true (by decide)]
    · rfl
    · intro w' hA; obtain ⟨l, hl, hi, hSl⟩ := hA; have hSl := (hSSg _ _).1 hSl; obtain ⟨-, hy1⟩ := hSl; obtain ⟨hz1_0, hz1_1⟩ := hy1 (hl.not (t := 23) (by kernel_rfl) hi); go_simp; try with_reducible rfl
    clear hCl hHeld
    intro hCl hHeld
    simp only [List.setIfInBounds_toArray, List.set_cons_zero, List.set_cons_succ] at hCl hHeld
    try simp only [Act.put]
    try simp only [List.setIfInBounds_toArray, List.set_cons_zero, List.set_cons_succ]
    refine reg_takeG 15 ?_ ?_ ?_ (by kernel_rfl) (by kernel_rfl) (by kernel_rfl) (fun _ _ _ h => h) ?_ ?_ ?_ hCl hHeld ?_
    rotate_left 2
    · simp only [List.getElem?_toArray, List.getElem?_cons_succ, List.getElem?_cons_zero]; exact rfl
    · intro l w'; rw [hSSg, hSSg]; rw [getD_set_ne (i := 15) (j := 22) true (by decide)]; rw [getD_set_ne (i := 15) (j := 23) true (by decide)]
    · rfl
    · intro w' hA; clear hA; go_simp; try with_reducible rfl
    clear hCl hHeld
    intro hCl hHeld
    simp only [List.setIfInBounds_toArray, List.set_cons_zero, List.set_cons_succ] at hCl hHeld
    try simp only [Act.put]
    try simp only [List.setIfInBounds_toArray, List.set_cons_zero, List.set_cons_succ]
    refine reg_takeG 16 ?_ ?_ ?_ (by kernel_rfl) (by kernel_rfl) (by kernel_rfl) (fun _ _ _ h => h) ?_ ?_ ?_ hCl hHeld ?_
    rotate_left 2
    · simp only [List.getElem?_toArray, List.getElem?_cons_succ, List.getElem?_cons_zero]; exact rfl
    · intro l w'; rw [hSSg, hSSg]; rw [getD_set_ne (i := 16) (j := 22) true (by decide)]; rw [getD_set_ne (i := 16) (j := 23) true (by decide)]
    · rfl
    · intro w' hA; clear hA; go_simp; try with_reducible rfl
    clear hCl hHeld
    intro hCl hHeld
    simp only [List.setIfInBounds_toArray, List.set_cons_zero, List.set_cons_succ] at hCl hHeld
    try simp only [Act.put]
    try simp only [List.setIfInBounds_toArray, List.set_cons_zero, List.set_cons_succ]
    refine reg_takeG 17 ?_ ?_ ?_ (by kernel_rfl) (by kernel_rfl) (by kernel_rfl) (fun _ _ _ h => h) ?_ ?_ ?_ hCl hHeld ?_
    rotate_left 2
    · simp only [List.getElem?_toArray, List.getElem?_cons_succ, List.getElem?_cons_zero]; exact rfl
    · intro l w'; rw [hSSg, hSSg]; rw [getD_set_ne (i := 17) (j := 22) true (by decide)]; rw [getD_set_ne (i := 17) (j := 23) true (by decide)]
    · rfl
    · intro w' hA; obtain ⟨l, hl, hi, hSl⟩ := hA; have hSl := (hSSg _ _).1 hSl; obtain ⟨hy0, hy1⟩ := hSl; obtain ⟨hz0_0, hz0_1⟩ := hy0 (hl.not (t := 22) (by kernel_rfl) hi); obtain ⟨hz1_0, hz1_1⟩ := hy1 (hl.not (t := 23) (by kernel_rfl) hi); go_simp; try with_reducible rfl
    clear hCl hHeld
    intro hCl hHeld
    simp only [List.setIfInBounds_toArray, List.set_cons_zero, List.set_cons_succ] at hCl hHeld
    try simp only [Act.put]
    try simp only [List.setIfInBounds_toArray, List.set_cons_zero, List.set_cons_succ]
    refine reg_takeG 18 ?_ ?_ ?_ (by kernel_rfl) (by kernel_rfl) (by kernel_rfl) (fun _ _ _ h => h) ?_ ?_ ?_ hCl hHeld ?_
    rotate_left 2
    · simp only [List.getElem?_toArray, List.getElem?_cons_succ, List.getElem?_cons_zero]; exact rfl
    · intro l w'; rw [hSSg, hSSg]; rw [getD_set_ne (i := 18) (j := 22) true (by decide)]; rw [getD_set_ne (i := 18) (j := 23) true (by decide)]
    · rfl
    · intro w' hA; clear hA; go_simp; try with_reducible rfl
    clear hCl hHeld
    intro hCl hHeld
    simp only [List.setIfInBounds_toArray, List.set_cons_zero, List.set_cons_succ] at hCl hHeld
    try simp only [Act.put]
    try simp only [List.setIfInBounds_toArray, List.set_cons_zero, List.set_cons_succ]
    refine reg_takeG 19 ?_ ?_ ?_ (by kernel_rfl) (by kernel_rfl) (by kernel_rfl) (fun _ _ _ h => h) ?_ ?_ ?_ hCl hHeld ?_
    rotate_left 2
    · simp only [List.getElem?_toArray, List.getElem?_cons_succ, List.getElem?_cons_zero]; exact rfl
    · intro l w'; rw [hSSg, hSSg]; rw [getD_set_ne (i := 19) (j := 22) true (by decide)]; rw [getD_set_ne (i := 19) (j := 23) true (by decide)]
    · rfl
    · intro w' hA; obtain ⟨l, hl, hi, hSl⟩ := hA; have hSl := (hSSg _ _).1 hSl; obtain ⟨-, hy1⟩ := hSl; obtain ⟨hz1_0, hz1_1⟩ := hy1 (hl.not (t := 23) (by kernel_rfl) hi); go_simp; try with_reducible rfl
    clear hCl hHeld
    intro hCl hHeld
    simp only [List.setIfInBounds_toArray, List.set_cons_zero, List.set_cons_succ] at hCl hHeld
    try simp only [Act.put]
    try simp only [List.setIfInBounds_toArray, List.set_cons_zero, List.set_cons_succ]
    refine reg_takeG 20 ?_ ?_ ?_ (by kernel_rfl) (by kernel_rfl) (by kernel_rfl) (fun _ _ _ h => h) ?_ ?_ ?_ hCl hHeld ?_
    rotate_left 2
    · simp only [List.getElem?_toArray, List.getElem?_cons_succ, List.getElem?_cons_zero]; exact rfl
    · intro l w'; rw [hSSg, hSSg]; rw [getD_set_ne (i := 20) (j := 22) true (by decide)]; rw [getD_set_ne (i := 20) (j := 23) true (by decide)]
    · rfl
    · intro w' hA; clear hA; go_simp; try with_reducible rfl
    clear hCl hHeld
    intro hCl hHeld
    simp only [List.setIfInBounds_toArray, List.set_cons_zero, List.set_cons_succ] at hCl hHeld
    try simp only [Act.put]
    try simp only [List.setIfInBounds_toArray, List.set_cons_zero, List.set_cons_succ]
    refine reg_takeG 21 ?_ ?_ ?_ (by kernel_rfl) (by kernel_rfl) (by kernel_rfl) (fun _ _ _ h => h) ?_ ?_ ?_ hCl hHeld ?_
    rotate_left 2
    · simp only [List.getElem?_toArray, List.getElem?_cons_succ, List.getElem?_cons_zero]; exact rfl
    · intro l w'; rw [hSSg, hSSg]; rw [getD_set_ne (i := 21) (j := 22) true (by decide)]; rw [getD_set_ne (i := 21) (j := 23) true (by decide)]
    · rfl
    · intro w' hA; clear hA; go_simp; try with_reducible rfl
    clear hCl hHeld
    intro hCl hHeld
    simp only [List.setIfInBounds_toArray, List.set_cons_zero, List.set_cons_succ] at hCl hHeld
    try simp only [Act.put]
    try simp only [List.setIfInBounds_toArray, List.set_cons_zero, List.set_cons_succ]
    clear hCl hHeld
    obtain ⟨sf3a, sf3b, sf3c, sf3d⟩ := pa_3.open2
    obtain ⟨sg3a, sg3b⟩ := Box.put2 pa_3 (.int .i64 c0)
    refine reg_callG 22 ?_ (by kernel_rfl) ?_ (fun K hK => ?_)
    rotate_left 1
    · simp only [List.getElem?_toArray, List.getElem?_cons_succ, List.getElem?_cons_zero]; exact rfl
    go_simp
    have hB_4 := below_setAll hB_3 (g := w.heap.size) (by omega) [.int .i64 c0, .int .i64 c1]
    have pb_4 := pb_3.farAll (g' := w.heap.size) (by omega) [.int .i64 c0, .int .i64 c1]
    have pa_4 := pa_3.setAll [.int .i64 c0, .int .i64 c1] rfl
    simp only [setAll, Nat.zero_add] at hB_4 pa_4 pb_4
    clear sf3a sf3b sf3c sf3d sg3a sg3b
    clear hB_3 pb_3 pa_3
    refine hK.out _ _ ((hSSg _ _).2 ⟨(fun h => absurd h (by decide)), (fun _ => ⟨pb_4.c0, pb_4.c1⟩)⟩) ?_
    clear hK K
    try simp only [Act.put]
    try simp only [List.setIfInBounds_toArray, List.set_cons_zero, List.set_cons_succ]
    generalize (World.setCell (World.setCell w7 ⟨w.heap.size, 0, none⟩ (.int .i64 c0)) ⟨w.heap.size, 1, none⟩ (.int .i64 c1)) = w8 at *
    obtain ⟨sf4a, sf4b, sf4c, sf4d⟩ := pb_4.open2
    obtain ⟨sg4a, sg4b⟩ := Box.put2 pb_4 (.int .i64 d0)
    refine reg_callG 23 ?_ (by kernel_rfl) ?_ (fun K hK => ?_)
    rotate_left 1
    · simp only [List.getElem?_toArray, List.getElem?_cons_succ, List.getElem?_cons_zero]; exact rfl
    go_simp
    have hB_5 := below_setAll hB_4 (g := w.heap.size + 1) (by omega) [.int .i64 d0, .int .i64 d1]
    have pa_5 := pa_4.farAll (g' := w.heap.size + 1) (by omega) [.int .i64 d0, .int .i64 d1]
    have pb_5 := pb_4.setAll [.int .i64 d0, .int .i64 d1] rfl
    simp only [setAll, Nat.zero_add] at hB_5 pa_5 pb_5
    clear sf4a sf4b sf4c sf4d sg4a sg4b
    clear hB_4 pa_4 pb_4
    refine hK.out _ _ ((hSSg _ _).2 ⟨(fun h => absurd h (by decide)), (fun h => absurd h (by decide))⟩) ?_
    clear hK K
    try simp only [Act.put]
    try simp only [List.setIfInBounds_toArray, List.set_cons_zero, List.set_cons_succ]
    generalize (World.setCell (World.setCell w8 ⟨w.heap.size + 1, 0, none⟩ (.int .i64 d0)) ⟨w.heap.size + 1, 1, none⟩ (.int .i64 d1)) = w9 at *
    refine wpAnyG_done (by kernel_rfl) ?_ _
    refine NoPanic.normal ?_
    clear hSSg SSg
    clear em0 em1 ex0 ex1
    obtain ⟨pae0, pae1, pae2, pae3⟩ := pa_5.open2
    obtain ⟨pbe0, pbe1, pbe2, pbe3⟩ := pb_5.open2
    go_wp2
    clear pae0 pae1 pae2 pae3 pbe0 pbe1 pbe2 pbe3
    have hWj_0 := Below.refl w9.heap.size w9
    have hsj : w.heap.size ≤ w9.heap.size := hB_5.size
    have hljpa := pa_5.lt
    have hljpb := pb_5.lt
    have hB_6 := hB_5.drew'
    have pa_6 := pa_5.drew
    have pb_6 := pb_5.drew
    have hWj_1 := hWj_0.drew'
    clear hB_5 pa_5 pb_5 hWj_0
    obtain ⟨FFj, hFFj⟩ : ∃ F : World → Prop, ∀ w', F w' ↔ (Below w.heap.size w w' ∧ Box w' (w.heap.size) [.int .i64 c0, .int .i64 c1] ∧ Box w' (w.heap.size + 1) [.int .i64 d0, .int .i64 d1] ∧ Below w9.heap.size w9 w') := ⟨_, fun _ => Iff.rfl⟩
    have cFj : ∀ {w' w'' : World}, FFj w' → Below w'.heap.size w' w'' → FFj w'' := by
      intro w' w'' h hb
      obtain ⟨y0, y1, y2, y3⟩ := (hFFj _).1 h
      exact (hFFj _).2 ⟨y0.trans (hb.mono y0.size), y1.below hb, y2.below hb, y3.trans (hb.mono y3.size)⟩
    have mFj : ∀ {w' : World}, FFj w' → w9.heap.size ≤ w'.heap.size := by
      intro w' h
      obtain ⟨y0, y1, y2, y3⟩ := (hFFj _).1 h
      exact y3.size
    have sFj : ∀ {w' : World}, FFj w' → (w'.cell? ⟨w.heap.size, 0, none⟩ = some (.int .i64 c0) ∧ w'.cell? ⟨w.heap.size, 1, none⟩ = some (.int .i64 c1) ∧ w'.cell? ⟨w.heap.size + 1, 0, none⟩ = some (.int .i64 d0) ∧ w'.cell? ⟨w.heap.size + 1, 1, none⟩ = some (.int .i64 d1)) := by
      intro w' h
      obtain ⟨y0, y1, y2, y3⟩ := (hFFj _).1 h
      exact ⟨y1.c0, y1.c1, y2.c0, y2.c1⟩
    have zF : FFj w9.drew := (hFFj _).2 ⟨hB_6, pa_6, pb_6, hWj_1⟩
    clear hB_6 pa_6 pb_6 hWj_1
    refine wp_region_noPanic ?_
    refine wp_region_held_drew (S := fun w' => w'.cell? ⟨w.heap.size, 0, none⟩ = some (.int .i64 c0) ∧ w'.cell? ⟨w.heap.size, 1, none⟩ = some (.int .i64 c1) ∧ w'.cell? ⟨w.heap.size + 1, 0, none⟩ = some (.int .i64 d0) ∧ w'.cell? ⟨w.heap.size + 1, 1, none⟩ = some (.int .i64 d1)) (by kernel_rfl) (sFj zF) (fun hHeld => ?_)
    refine reg_take 0 ?_ ?_ ?_ (by kernel_rfl) (by kernel_rfl) (by kernel_rfl) (fun _ _ _ h => h) ?_ ?_ (by assumption) ?_
    rotate_left 2
    · simp only [List.getElem?_toArray, List.getElem?_cons_zero]; exact rfl
    · rfl
    · intro w hSw; (try dsimp only at hSw); go_simp; try with_reducible rfl
    try simp only [Act.put]
    try simp only [List.setIfInBounds_toArray, List.set_cons_zero, List.set_cons_succ]
    refine reg_take 1 ?_ ?_ ?_ (by kernel_rfl) (by kernel_rfl) (by kernel_rfl) (fun _ _ _ h => h) ?_ ?_ (by assumption) ?_
    rotate_left 2
    · simp only [List.getElem?_toArray, List.getElem?_cons_succ, List.getElem?_cons_zero]; exact rfl
    · rfl
    · intro w hSw; (try dsimp only at hSw); go_simp; try with_reducible rfl
    try simp only [Act.put]
    try simp only [List.setIfInBounds_toArray, List.set_cons_zero, List.set_cons_succ]
    refine reg_take 2 ?_ ?_ ?_ (by kernel_rfl) (by kernel_rfl) (by kernel_rfl) (fun _ _ _ h => h) ?_ ?_ (by assumption) ?_
    rotate_left 2
    · simp only [List.getElem?_toArray, List.getElem?_cons_succ, List.getElem?_cons_zero]; exact rfl
    · rfl
    · intro w hSw; (try dsimp only at hSw); go_simp; try with_reducible rfl
    try simp only [Act.put]
    try simp only [List.setIfInBounds_toArray, List.set_cons_zero, List.set_cons_succ]
    refine reg_take 3 ?_ ?_ ?_ (by kernel_rfl) (by kernel_rfl) (by kernel_rfl) (fun _ _ _ h => h) ?_ ?_ (by assumption) ?_
    rotate_left 2
    · simp only [List.getElem?_toArray, List.getElem?_cons_succ, List.getElem?_cons_zero]; exact rfl
    · rfl
    · intro w hSw; (try dsimp only at hSw); go_simp; try with_reducible rfl
    try simp only [Act.put]
    try simp only [List.setIfInBounds_toArray, List.set_cons_zero, List.set_cons_succ]
    refine reg_take 4 ?_ ?_ ?_ (by kernel_rfl) (by kernel_rfl) (by kernel_rfl) (fun _ _ _ h => h) ?_ ?_ (by assumption) ?_
    rotate_left 2
    · simp only [List.getElem?_toArray, List.getElem?_cons_succ, List.getElem?_cons_zero]; exact rfl
    · rfl
    · intro w hSw; (try dsimp only at hSw); go_simp; try with_reducible rfl
    try simp only [Act.put]
    try simp only [List.setIfInBounds_toArray, List.set_cons_zero, List.set_cons_succ]
    refine reg_take 5 ?_ ?_ ?_ (by kernel_rfl) (by kernel_rfl) (by kernel_rfl) (fun _ _ _ h => h) ?_ ?_ (by assumption) ?_
    rotate_left 2
    · simp only [List.getElem?_toArray, List.getElem?_cons_succ, List.getElem?_cons_zero]; exact rfl
    · rfl
    · intro w hSw; (try dsimp only at hSw); go_simp; try with_reducible rfl
    try simp only [Act.put]
    try simp only [List.setIfInBounds_toArray, List.set_cons_zero, List.set_cons_succ]
    refine reg_take 6 ?_ ?_ ?_ (by kernel_rfl) (by kernel_rfl) (by kernel_rfl) (fun _ _ _ h => h) ?_ ?_ (by assumption) ?_
    rotate_left 2
    · simp only [List.getElem?_toArray, List.getElem?_cons_succ, List.getElem?_cons_zero]; exact rfl
    · rfl
    · intro w hSw; (try dsimp only at hSw); go_simp; try with_reducible rfl
    try simp only [Act.put]
    try simp only [List.setIfInBounds_toArray, List.set_cons_zero, List.set_cons_succ]
    refine reg_take 7 ?_ ?_ ?_ (by kernel_rfl) (by kernel_rfl) (by kernel_rfl) (fun _ _ _ h => h) ?_ ?_ (by assumption) ?_
    rotate_left 2
    · simp only [List.getElem?_toArray, List.getElem?_cons_succ, List.getElem?_cons_zero]; exact rfl
    · rfl
    · intro w hSw; (try dsimp only at hSw); go_simp; try with_reducible rfl
    try simp only [Act.put]
    try simp only [List.setIfInBounds_toArray, List.set_cons_zero, List.set_cons_succ]
    refine reg_take 8 ?_ ?_ ?_ (by kernel_rfl) (by kernel_rfl) (by kernel_rfl) (fun _ _ _ h => h) ?_ ?_ (by assumption) ?_
    rotate_left 2
    · simp only [List.getElem?_toArray, List.getElem?_cons_succ, List.getElem?_cons_zero]; exact rfl
    · rfl
    · intro w hSw; (try dsimp only at hSw); go_simp; try with_reducible rfl
    try simp only [Act.put]
    try simp only [List.setIfInBounds_toArray, List.set_cons_zero, List.set_cons_succ]
    refine reg_take 9 ?_ ?_ ?_ (by kernel_rfl) (by kernel_rfl) (by kernel_rfl) (fun _ _ _ h => h) ?_ ?_ (by assumption) ?_
    rotate_left 2
    · simp only [List.getElem?_toArray, List.getElem?_cons_succ, List.getElem?_cons_zero]; exact rfl
    · rfl
    · intro w hSw; (try dsimp only at hSw); go_simp; try with_reducible rfl
    try simp only [Act.put]
    try simp only [List.setIfInBounds_toArray, List.set_cons_zero, List.set_cons_succ]
    refine reg_take 10 ?_ ?_ ?_ (by kernel_rfl) (by kernel_rfl) (by kernel_rfl) (fun _ _ _ h => h) ?_ ?_ (by assumption) ?_
    rotate_left 2
    · simp only [List.getElem?_toArray, List.getElem?_cons_succ, List.getElem?_cons_zero]; exact rfl
    · rfl
    · intro w hSw; (try dsimp only at hSw); go_simp; try with_reducible rfl
    try simp only [Act.put]
    try simp only [List.setIfInBounds_toArray, List.set_cons_zero, List.set_cons_succ]
    refine reg_take 11 ?_ ?_ ?_ (by kernel_rfl) (by kernel_rfl) (by kernel_rfl) (fun _ _ _ h => h) ?_ ?_ (by assumption) ?_
    rotate_left 2
    · simp only [List.getElem?_toArray, List.getElem?_cons_succ, List.getElem?_cons_zero]; exact rfl
    · rfl
    · intro w hSw; (try dsimp only at hSw); go_simp; try with_reducible rfl
    try simp only [Act.put]
    try simp only [List.setIfInBounds_toArray, List.set_cons_zero, List.set_cons_succ]
    refine reg_grab (fun WWj aj hWW hAA => ?_)
    rw [hWW]
    have HAj := Lib.hid hAA; clear hWW hAA hHeld
    obtain ⟨IVj, hIVj⟩ : ∃ IV : Array Bool → Act → World → Prop, ∀ l a w', IV l a w' ↔ ∃ (k : Nat) (bb0 bb1 bb2 bb3 : Bool) (p0_ p1_ p2_ p3_ : Value) (gpA gpB gpC gpD : Nat), k ≤ 0 ∧ l = #[true, true, true, true, true, true, true, true, true, true, true, true, bb0, bb1, bb2, bb3, false, false, false, false] ∧ a = ((((aj.put (some 5) p0_).put (some 6) p1_).put (some 7) p2_).put (some 8) p3_) ∧ FFj w' ∧ (bb0 = true → p0_ = .pointer (some ⟨gpA, 0, none⟩) ∧ Box w' gpA [.int .i64 0, .int .i64 0] ∧ w9.heap.size ≤ gpA) ∧ (bb1 = true → p1_ = .pointer (some ⟨gpB, 0, none⟩) ∧ Box w' gpB [.int .i64 0, .int .i64 0] ∧ w9.heap.size ≤ gpB) ∧ (bb2 = true → p2_ = .pointer (some ⟨gpC, 0, none⟩) ∧ Box w' gpC [.int .i64 0, .int .i64 0] ∧ w9.heap.size ≤ gpC) ∧ (bb3 = true → p3_ = .pointer (some ⟨gpD, 0, none⟩) ∧ Box w' gpD [.int .i64 0, .int .i64 0] ∧ w9.heap.size ≤ gpD) ∧ (bb0 = true → bb1 = true → gpA ≠ gpB) ∧ (bb0 = true → bb2 = true → gpA ≠ gpC) ∧ (bb0 = true → bb3 = true → gpA ≠ gpD) ∧ (bb1 = true → bb2 = true → gpB ≠ gpC) ∧ (bb1 = true → bb3 = true → gpB ≠ gpD) ∧ (bb2 = true → bb3 = true → gpC ≠ gpD) := ⟨_, fun _ _ _ => Iff.rfl⟩
    refine wpAnyH_until IVj ?_ _ _ _ _ ((hIVj _ _ _).2 ⟨0, false, false, false, false, (aj.tmps.getD 5 undef), (aj.tmps.getD 6 undef), (aj.tmps.getD 7 undef), (aj.tmps.getD 8 undef), 0, 0, 0, 0, Nat.zero_le _, rfl, (by simp only [put_same]), zF, (fun h => by cases h), (fun h => by cases h), (fun h => by cases h), (fun h => by cases h), (fun h => by cases h), (fun h => by cases h), (fun h => by cases h), (fun h => by cases h), (fun h => by cases h), (fun h => by cases h)⟩) (by kernel_rfl)
    clear zF
    intro ll aa w10 hI
    obtain ⟨k, bb0, bb1, bb2, bb3, p0_, p1_, p2_, p3_, gpA, gpB, gpC, gpD, hk, rfl, rfl, zF, zz0, zz1, zz2, zz3, n0_1, n0_2, n0_3, n1_2, n1_3, n2_3⟩ := (hIVj _ _ _).1 hI
    clear hI
    by_cases hL : k = 0 ∧ bb0 = true ∧ bb1 = true ∧ bb2 = true ∧ bb3 = true
    · left
      obtain ⟨rfl, rfl, rfl, rfl, rfl⟩ := hL
      obtain ⟨rfl, pA_0, hgpA⟩ := zz0 rfl
      obtain ⟨rfl, pB_0, hgpB⟩ := zz1 rfl
      obtain ⟨rfl, pC_0, hgpC⟩ := zz2 rfl
      obtain ⟨rfl, pD_0, hgpD⟩ := zz3 rfl
      have hnpApB := n0_1 rfl rfl
      have hnpApC := n0_2 rfl rfl
      have hnpApD := n0_3 rfl rfl
      have hnpBpC := n1_2 rfl rfl
      have hnpBpD := n1_3 rfl rfl
      have hnpCpD := n2_3 rfl rfl
      clear hk zz0 zz1 zz2 zz3 n0_1 n0_2 n0_3 n1_2 n1_3 n2_3
      show wpAnyH _ _ _ _ _ 4 _ _ _
      rw [HAj.out]
      try simp only [Act.put]
      try simp only [List.setIfInBounds_toArray, List.set_cons_zero, List.set_cons_succ]
      obtain ⟨hB_0, pa_0, pb_0, hWj_0⟩ := (hFFj _).1 zF
      clear zF
      clear hWj_0
      obtain ⟨sf5a, sf5b, sf5c, sf5d⟩ := pA_0.open2
      obtain ⟨sg5a, sg5b⟩ := Box.put2 pA_0 (.int .i64 c0)
      refine reg_call 16 ?_ (by kernel_rfl) ?_ (fun K hK => ?_)
      rotate_left 1
      · simp only [List.getElem?_toArray, List.getElem?_cons_succ, List.getElem?_cons_zero]; exact rfl
      go_simp
      have hB_1 := below_setAll hB_0 (g := gpA) (by omega) [.int .i64 c0, .int .i64 c1]
      have pa_1 := pa_0.farAll (g' := gpA) (by omega) [.int .i64 c0, .int .i64 c1]
      have pb_1 := pb_0.farAll (g' := gpA) (by omega) [.int .i64 c0, .int .i64 c1]
      have pB_1 := pB_0.farAll (g' := gpA) (by omega) [.int .i64 c0, .int .i64 c1]
      have pC_1 := pC_0.farAll (g' := gpA) (by omega) [.int .i64 c0, .int .i64 c1]
      have pD_1 := pD_0.farAll (g' := gpA) (by omega) [.int .i64 c0, .int .i64 c1]
      have pA_1 := pA_0.setAll [.int .i64 c0, .int .i64 c1] rfl
      simp only [setAll, Nat.zero_add] at hB_1 pa_1 pb_1 pA_1 pB_1 pC_1 pD_1
      clear sf5a sf5b sf5c sf5d sg5a sg5b
      clear hB_0 pa_0 pb_0 pB_0 pC_0 pD_0 pA_0
      refine hK.out _ _ ⟨pa_1.c0, pa_1.c1, pb_1.c0, pb_1.c1⟩ (fun hHeld => ?_)
      clear hK K
      try simp only [Act.put]
      try simp only [List.setIfInBounds_toArray, List.set_cons_zero, List.set_cons_succ]
      generalize (World.setCell (World.setCell w10 ⟨gpA, 0, none⟩ (.int .i64 c0)) ⟨gpA, 1, none⟩ (.int .i64 c1)) = w11 at *
      obtain ⟨sf6a, sf6b, sf6c, sf6d⟩ := pB_1.open2
      obtain ⟨sg6a, sg6b⟩ := Box.put2 pB_1 (.int .i64 d0)
      refine reg_call 17 ?_ (by kernel_rfl) ?_ (fun K hK => ?_)
      rotate_left 1
      · simp only [List.getElem?_toArray, List.getElem?_cons_succ, List.getElem?_cons_zero]; exact rfl
      go_simp
      have hB_2 := below_setAll hB_1 (g := gpB) (by omega) [.int .i64 d0, .int .i64 c1]
      have pa_2 := pa_1.farAll (g' := gpB) (by omega) [.int .i64 d0, .int .i64 c1]
      have pb_2 := pb_1.farAll (g' := gpB) (by omega) [.int .i64 d0, .int .i64 c1]
      have pA_2 := pA_1.farAll (g' := gpB) (by omega) [.int .i64 d0, .int .i64 c1]
      have pC_2 := pC_1.farAll (g' := gpB) (by omega) [.int .i64 d0, .int .i64 c1]
      have pD_2 := pD_1.farAll (g' := gpB) (by omega) [.int .i64 d0, .int .i64 c1]
      have pB_2 := pB_1.setAll [.int .i64 d0, .int .i64 c1] rfl
      simp only [setAll, Nat.zero_add] at hB_2 pa_2 pb_2 pA_2 pB_2 pC_2 pD_2
      clear sf6a sf6b sf6c sf6d sg6a sg6b
      clear hB_1 pa_1 pb_1 pA_1 pC_1 pD_1 pB_1
      refine hK.out _ _ ⟨pa_2.c0, pa_2.c1, pb_2.c0, pb_2.c1⟩ (fun hHeld => ?_)
      clear hK K
      try simp only [Act.put]
      try simp only [List.setIfInBounds_toArray, List.set_cons_zero, List.set_cons_succ]
      generalize (World.setCell (World.setCell w11 ⟨gpB, 0, none⟩ (.int .i64 d0)) ⟨gpB, 1, none⟩ (.int .i64 c1)) = w12 at *
      obtain ⟨sf7a, sf7b, sf7c, sf7d⟩ := pC_2.open2
      obtain ⟨sg7a, sg7b⟩ := Box.put2 pC_2 (.int .i64 d0)
      refine reg_call 18 ?_ (by kernel_rfl) ?_ (fun K hK => ?_)
      rotate_left 1
      · simp only [List.getElem?_toArray, List.getElem?_cons_succ, List.getElem?_cons_zero]; exact rfl
      go_simp
      have hB_3 := below_setAll hB_2 (g := gpC) (by omega) [.int .i64 d0, .int .i64 d1]
      have pa_3 := pa_2.farAll (g' := gpC) (by omega) [.int .i64 d0, .int .i64 d1]
      have pb_3 := pb_2.farAll (g' := gpC) (by omega) [.int .i64 d0, .int .i64 d1]
      have pA_3 := pA_2.farAll (g' := gpC) (by omega) [.int .i64 d0, .int .i64 d1]
      have pB_3 := pB_2.farAll (g' := gpC) (by omega) [.int .i64 d0, .int .i64 d1]
      have pD_3 := pD_2.farAll (g' := gpC) (by omega) [.int .i64 d0, .int .i64 d1]
      have pC_3 := pC_2.setAll [.int .i64 d0, .int .i64 d1] rfl
      simp only [setAll, Nat.zero_add] at hB_3 pa_3 pb_3 pA_3 pB_3 pC_3 pD_3
      clear sf7a sf7b sf7c sf7d sg7a sg7b
      clear hB_2 pa_2 pb_2 pA_2 pB_2 pD_2 pC_2
      refine hK.out _ _ ⟨pa_3.c0, pa_3.c1, pb_3.c0, pb_3.c1⟩ (fun hHeld => ?_)
      clear hK K
      try simp only [Act.put]
      try simp only [List.setIfInBounds_toArray, List.set_cons_zero, List.set_cons_succ]
      generalize (World.setCell (World.setCell w12 ⟨gpC, 0, none⟩ (.int .i64 d0)) ⟨gpC, 1, none⟩ (.int .i64 d1)) = w13 at *
      obtain ⟨sf8a, sf8b, sf8c, sf8d⟩ := pD_3.open2
      obtain ⟨sg8a, sg8b⟩ := Box.put2 pD_3 (.int .i64 c0)
      refine reg_call 19 ?_ (by kernel_rfl) ?_ (fun K hK => ?_)
      rotate_left 1
      · simp only [List.getElem?_toArray, List.getElem?_cons_succ, List.getElem?_cons_zero]; exact rfl
      go_simp
      have hB_4 := below_setAll hB_3 (g := gpD) (by omega) [.int .i64 c0, .int .i64 d1]
      have pa_4 := pa_3.farAll (g' := gpD) (by omega) [.int .i64 c0, .int .i64 d1]
      have pb_4 := pb_3.farAll (g' := gpD) (by omega) [.int .i64 c0, .int .i64 d1]
      have pA_4 := pA_3.farAll (g' := gpD) (by omega) [.int .i64 c0, .int .i64 d1]
      have pB_4 := pB_3.farAll (g' := gpD) (by omega) [.int .i64 c0, .int .i64 d1]
      have pC_4 := pC_3.farAll (g' := gpD) (by omega) [.int .i64 c0, .int .i64 d1]
      have pD_4 := pD_3.setAll [.int .i64 c0, .int .i64 d1] rfl
      simp only [setAll, Nat.zero_add] at hB_4 pa_4 pb_4 pA_4 pB_4 pC_4 pD_4
      clear sf8a sf8b sf8c sf8d sg8a sg8b
      clear hB_3 pa_3 pb_3 pA_3 pB_3 pC_3 pD_3
      refine hK.out _ _ ⟨pa_4.c0, pa_4.c1, pb_4.c0, pb_4.c1⟩ (fun hHeld => ?_)
      clear hK K
      try simp only [Act.put]
      try simp only [List.setIfInBounds_toArray, List.set_cons_zero, List.set_cons_succ]
      generalize (World.setCell (World.setCell w13 ⟨gpD, 0, none⟩ (.int .i64 c0)) ⟨gpD, 1, none⟩ (.int .i64 d1)) = w14 at *
      refine wpAnyH_done (by kernel_rfl) ?_ _
      refine NoPanic.normal ?_
      obtain ⟨ol0_0, ol0_1, ol0_2, ol0_3⟩ := pa_4.open2
      obtain ⟨ol1_0, ol1_1, ol1_2, ol1_3⟩ := pb_4.open2
      obtain ⟨ol2_0, ol2_1, ol2_2, ol2_3⟩ := pA_4.open2
      obtain ⟨ol3_0, ol3_1, ol3_2, ol3_3⟩ := pB_4.open2
      obtain ⟨ol4_0, ol4_1, ol4_2, ol4_3⟩ := pC_4.open2
      obtain ⟨ol5_0, ol5_1, ol5_2, ol5_3⟩ := pD_4.open2
      have hl1pa := pa_4.lt
      have hl1pb := pb_4.lt
      have hl1pA := pA_4.lt
      have hl1pB := pB_4.lt
      have hl1pC := pC_4.lt
      have hl1pD := pD_4.lt
      have hl1B := hB_4.size
      obtain ⟨w15, hw15, pM_0, hb15, hs15⟩ := new_box w14 (w14.heap.size) rfl [.int .i64 m0, .int .i64 m1] 23
      have hb15' : Below w14.heap.size w14 w15 := hb15.mono (by omega)
      clear hb15
      have hB_5 := hB_4.trans (hb15'.mono hB_4.size)
      have pa_5 := pa_4.below hb15'
      have pb_5 := pb_4.below hb15'
      have pA_5 := pA_4.below hb15'
      have pB_5 := pB_4.below hb15'
      have pC_5 := pC_4.below hb15'
      have pD_5 := pD_4.below hb15'
      clear hb15' hB_4 pa_4 pb_4 pA_4 pB_4 pC_4 pD_4
      obtain ⟨pae0, pae1, pae2, pae3⟩ := pa_5.open2
      obtain ⟨pbe0, pbe1, pbe2, pbe3⟩ := pb_5.open2
      obtain ⟨pAe0, pAe1, pAe2, pAe3⟩ := pA_5.open2
      obtain ⟨pBe0, pBe1, pBe2, pBe3⟩ := pB_5.open2
      obtain ⟨pCe0, pCe1, pCe2, pCe3⟩ := pC_5.open2
      obtain ⟨pDe0, pDe1, pDe2, pDe3⟩ := pD_5.open2
      obtain ⟨pMe0, pMe1, pMe2, pMe3⟩ := pM_0.open2
      have e1 := E1.out
      have e2 := E2.out
      have e3 := E3.out
      have e4 := E4.out
      have e5 := E5.out
      have e6 := E6.out
      have nm := NM.out
      go_wp2_with fail
      clear nm ol0_0 ol0_1 ol0_2 ol0_3 ol1_0 ol1_1 ol1_2 ol1_3 ol2_0 ol2_1 ol2_2 ol2_3 ol3_0 ol3_1 ol3_2 ol3_3 ol4_0 ol4_1 ol4_2 ol4_3 ol5_0 ol5_1 ol5_2 ol5_3 e1 e2 e3 e4 e5 e6
      clear pa_5 pb_5
      clear pae0 pae1 pae2 pae3 pbe0 pbe1 pbe2 pbe3 pAe0 pAe1 pAe2 pAe3 pBe0 pBe1 pBe2 pBe3 pCe0 pCe1 pCe2 pCe3 pDe0 pDe1 pDe2 pDe3 pMe0 pMe1 pMe2 pMe3
      have e7 := E7.out
      have e8 := E8.out
      have e9 := E9.out
      have e10 := E10.out
      have hB_6 := hB_5.drew'
      have pA_6 := pA_5.drew
      have pB_6 := pB_5.drew
      have pC_6 := pC_5.drew
      have pD_6 := pD_5.drew
      have pM_1 := pM_0.drew
      refine wp_region_noPanic ?_
      refine wp_region_held_drew (S := fun w' => w'.cell? ⟨gpA, 0, none⟩ = some (.int .i64 c0) ∧ w'.cell? ⟨gpA, 1, none⟩ = some (.int .i64 c1) ∧ w'.cell? ⟨gpB, 0, none⟩ = some (.int .i64 d0) ∧ w'.cell? ⟨gpB, 1, none⟩ = some (.int .i64 c1) ∧ w'.cell? ⟨gpC, 0, none⟩ = some (.int .i64 d0) ∧ w'.cell? ⟨gpC, 1, none⟩ = some (.int .i64 d1) ∧ w'.cell? ⟨gpD, 0, none⟩ = some (.int .i64 c0) ∧ w'.cell? ⟨gpD, 1, none⟩ = some (.int .i64 d1) ∧ w'.cell? ⟨w14.heap.size, 0, none⟩ = some (.int .i64 m0) ∧ w'.cell? ⟨w14.heap.size, 1, none⟩ = some (.int .i64 m1)) (by kernel_rfl) (⟨pA_6.c0, pA_6.c1, pB_6.c0, pB_6.c1, pC_6.c0, pC_6.c1, pD_6.c0, pD_6.c1, pM_1.c0, pM_1.c1⟩) (fun hHeld => ?_)
      refine reg_take 0 ?_ ?_ ?_ (by kernel_rfl) (by kernel_rfl) (by kernel_rfl) (fun _ _ _ h => h) ?_ ?_ (by assumption) ?_
      rotate_left 2
      · simp only [List.getElem?_toArray, List.getElem?_cons_zero]; exact rfl
      · rfl
      · intro w hSw; (try dsimp only at hSw); go_simp; try with_reducible rfl
      try simp only [Act.put]
      try simp only [List.setIfInBounds_toArray, List.set_cons_zero, List.set_cons_succ]
      refine reg_take 1 ?_ ?_ ?_ (by kernel_rfl) (by kernel_rfl) (by kernel_rfl) (fun _ _ _ h => h) ?_ ?_ (by assumption) ?_
      rotate_left 2
      · simp only [List.getElem?_toArray, List.getElem?_cons_succ, List.getElem?_cons_zero]; exact rfl
      · rfl
      · intro w hSw; (try dsimp only at hSw); go_simp; try with_reducible rfl
      try simp only [Act.put]
      try simp only [List.setIfInBounds_toArray, List.set_cons_zero, List.set_cons_succ]
      refine reg_take 2 ?_ ?_ ?_ (by kernel_rfl) (by kernel_rfl) (by kernel_rfl) (fun _ _ _ h => h) ?_ ?_ (by assumption) ?_
      rotate_left 2
      · simp only [List.getElem?_toArray, List.getElem?_cons_succ, List.getElem?_cons_zero]; exact rfl
      · rfl
      · intro w hSw; (try dsimp only at hSw); go_simp; try with_reducible rfl
      try simp only [Act.put]
      try simp only [List.setIfInBounds_toArray, List.set_cons_zero, List.set_cons_succ]
      refine reg_take 3 ?_ ?_ ?_ (by kernel_rfl) (by kernel_rfl) (by kernel_rfl) (fun _ _ _ h => h) ?_ ?_ (by assumption) ?_
      rotate_left 2
      · simp only [List.getElem?_toArray, List.getElem?_cons_succ, List.getElem?_cons_zero]; exact rfl
      · rfl
      · intro w hSw; (try dsimp only at hSw); go_simp; try with_reducible rfl
      try simp only [Act.put]
      try simp only [List.setIfInBounds_toArray, List.set_cons_zero, List.set_cons_succ]
      refine reg_call 4 ?_ (by kernel_rfl) ?_ (fun K hK => ?_)
      rotate_left 1
      · simp only [List.getElem?_toArray, List.getElem?_cons_succ, List.getElem?_cons_zero]; exact rfl
      go_simp
      refine (K1.out _).mono ?_
      rintro e w16 ⟨rfl, hb16⟩
      have hB_7 := hB_6.trans (hb16.mono hB_6.size)
      have pA_7 := pA_6.below hb16
      have pB_7 := pB_6.below hb16
      have pC_7 := pC_6.below hb16
      have pD_7 := pD_6.below hb16
      have pM_2 := pM_1.below hb16
      clear hb16 hB_6 pA_6 pB_6 pC_6 pD_6 pM_1
      go_wp2_with fail
      refine hK.out _ _ ⟨pA_7.c0, pA_7.c1, pB_7.c0, pB_7.c1, pC_7.c0, pC_7.c1, pD_7.c0, pD_7.c1, pM_2.c0, pM_2.c1⟩ (fun hHeld => ?_)
      clear hK K
      try simp only [Act.put]
      try simp only [List.setIfInBounds_toArray, List.set_cons_zero, List.set_cons_succ]
      refine reg_take 5 ?_ ?_ ?_ (by kernel_rfl) (by kernel_rfl) (by kernel_rfl) (fun _ _ _ h => h) ?_ ?_ (by assumption) ?_
      rotate_left 2
      · simp only [List.getElem?_toArray, List.getElem?_cons_succ, List.getElem?_cons_zero]; exact rfl
      · rfl
      · intro w hSw; (try dsimp only at hSw); go_simp; try with_reducible rfl
      try simp only [Act.put]
      try simp only [List.setIfInBounds_toArray, List.set_cons_zero, List.set_cons_succ]
      refine reg_take 6 ?_ ?_ ?_ (by kernel_rfl) (by kernel_rfl) (by kernel_rfl) (fun _ _ _ h => h) ?_ ?_ (by assumption) ?_
      rotate_left 2
      · simp only [List.getElem?_toArray, List.getElem?_cons_succ, List.getElem?_cons_zero]; exact rfl
      · rfl
      · intro w hSw; (try dsimp only at hSw); go_simp; try with_reducible rfl
      try simp only [Act.put]
      try simp only [List.setIfInBounds_toArray, List.set_cons_zero, List.set_cons_succ]
      refine reg_take 7 ?_ ?_ ?_ (by kernel_rfl) (by kernel_rfl) (by kernel_rfl) (fun _ _ _ h => h) ?_ ?_ (by assumption) ?_
      rotate_left 2
      · simp only [List.getElem?_toArray, List.getElem?_cons_succ, List.getElem?_cons_zero]; exact rfl
      · rfl
      · intro w hSw; (try dsimp only at hSw); go_simp; try with_reducible rfl
      try simp only [Act.put]
      try simp only [List.setIfInBounds_toArray, List.set_cons_zero, List.set_cons_succ]
      refine reg_take 8 ?_ ?_ ?_ (by kernel_rfl) (by kernel_rfl) (by kernel_rfl) (fun _ _ _ h => h) ?_ ?_ (by assumption) ?_
      rotate_left 2
      · simp only [List.getElem?_toArray, List.getElem?_cons_succ, List.getElem?_cons_zero]; exact rfl
      · rfl
      · intro w hSw; (try dsimp only at hSw); go_simp; try with_reducible rfl
      try simp only [Act.put]
      try simp only [List.setIfInBounds_toArray, List.set_cons_zero, List.set_cons_succ]
      refine reg_take 9 ?_ ?_ ?_ (by kernel_rfl) (by kernel_rfl) (by kernel_rfl) (fun _ _ _ h => h) ?_ ?_ (by assumption) ?_
      rotate_left 2
      · simp only [List.getElem?_toArray, List.getElem?_cons_succ, List.getElem?_cons_zero]; exact rfl
      · rfl
      · intro w hSw; (try dsimp only at hSw); go_simp; try with_reducible rfl
      try simp only [Act.put]
      try simp only [List.setIfInBounds_toArray, List.set_cons_zero, List.set_cons_succ]
      refine reg_take 10 ?_ ?_ ?_ (by kernel_rfl) (by kernel_rfl) (by kernel_rfl) (fun _ _ _ h => h) ?_ ?_ (by assumption) ?_
      rotate_left 2
      · simp only [List.getElem?_toArray, List.getElem?_cons_succ, List.getElem?_cons_zero]; exact rfl
      · rfl
      · intro w hSw; (try dsimp only at hSw); go_simp; try with_reducible rfl
      try simp only [Act.put]
      try simp only [List.setIfInBounds_toArray, List.set_cons_zero, List.set_cons_succ]
      refine reg_call 11 ?_ (by kernel_rfl) ?_ (fun K hK => ?_)
      rotate_left 1
      · simp only [List.getElem?_toArray, List.getElem?_cons_succ, List.getElem?_cons_zero]; exact rfl
      go_simp
      refine (K2.out _).mono ?_
      rintro e w17 ⟨rfl, hb17⟩
      have hB_8 := hB_7.trans (hb17.mono hB_7.size)
      have pA_8 := pA_7.below hb17
      have pB_8 := pB_7.below hb17
      have pC_8 := pC_7.below hb17
      have pD_8 := pD_7.below hb17
      have pM_3 := pM_2.below hb17
      clear hb17 hB_7 pA_7 pB_7 pC_7 pD_7 pM_2
      go_wp2_with fail
      refine hK.out _ _ ⟨pA_8.c0, pA_8.c1, pB_8.c0, pB_8.c1, pC_8.c0, pC_8.c1, pD_8.c0, pD_8.c1, pM_3.c0, pM_3.c1⟩ (fun hHeld => ?_)
      clear hK K
      try simp only [Act.put]
      try simp only [List.setIfInBounds_toArray, List.set_cons_zero, List.set_cons_succ]
      refine reg_take 12 ?_ ?_ ?_ (by kernel_rfl) (by kernel_rfl) (by kernel_rfl) (fun _ _ _ h => h) ?_ ?_ (by assumption) ?_
      rotate_left 2
      · simp only [List.getElem?_toArray, List.getElem?_cons_succ, List.getElem?_cons_zero]; exact rfl
      · rfl
      · intro w hSw; (try dsimp only at hSw); go_simp; try with_reducible rfl
      try simp only [Act.put]
      try simp only [List.setIfInBounds_toArray, List.set_cons_zero, List.set_cons_succ]
      refine reg_take 13 ?_ ?_ ?_ (by kernel_rfl) (by kernel_rfl) (by kernel_rfl) (fun _ _ _ h => h) ?_ ?_ (by assumption) ?_
      rotate_left 2
      · simp only [List.getElem?_toArray, List.getElem?_cons_succ, List.getElem?_cons_zero]; exact rfl
      · rfl
      · intro w hSw; (try dsimp only at hSw); go_simp; try with_reducible rfl
      try simp only [Act.put]
      try simp only [List.setIfInBounds_toArray, List.set_cons_zero, List.set_cons_succ]
      refine reg_take 14 ?_ ?_ ?_ (by kernel_rfl) (by kernel_rfl) (by kernel_rfl) (fun _ _ _ h => h) ?_ ?_ (by assumption) ?_
      rotate_left 2
      · simp only [List.getElem?_toArray, List.getElem?_cons_succ, List.getElem?_cons_zero]; exact rfl
      · rfl
      · intro w hSw; (try dsimp only at hSw); go_simp; try with_reducible rfl
      try simp only [Act.put]
      try simp only [List.setIfInBounds_toArray, List.set_cons_zero, List.set_cons_succ]
      refine reg_take 15 ?_ ?_ ?_ (by kernel_rfl) (by kernel_rfl) (by kernel_rfl) (fun _ _ _ h => h) ?_ ?_ (by assumption) ?_
      rotate_left 2
      · simp only [List.getElem?_toArray, List.getElem?_cons_succ, List.getElem?_cons_zero]; exact rfl
      · rfl
      · intro w hSw; (try dsimp only at hSw); go_simp; try with_reducible rfl
      try simp only [Act.put]
      try simp only [List.setIfInBounds_toArray, List.set_cons_zero, List.set_cons_succ]
      refine reg_take 16 ?_ ?_ ?_ (by kernel_rfl) (by kernel_rfl) (by kernel_rfl) (fun _ _ _ h => h) ?_ ?_ (by assumption) ?_
      rotate_left 2
      · simp only [List.getElem?_toArray, List.getElem?_cons_succ, List.getElem?_cons_zero]; exact rfl
      · rfl
      · intro w hSw; (try dsimp only at hSw); go_simp; try with_reducible rfl
      try simp only [Act.put]
      try simp only [List.setIfInBounds_toArray, List.set_cons_zero, List.set_cons_succ]
      refine reg_take 17 ?_ ?_ ?_ (by kernel_rfl) (by kernel_rfl) (by kernel_rfl) (fun _ _ _ h => h) ?_ ?_ (by assumption) ?_
      rotate_left 2
      · simp only [List.getElem?_toArray, List.getElem?_cons_succ, List.getElem?_cons_zero]; exact rfl
      · rfl
      · intro w hSw; (try dsimp only at hSw); go_simp; try with_reducible rfl
      try simp only [Act.put]
      try simp only [List.setIfInBounds_toArray, List.set_cons_zero, List.set_cons_succ]
      refine reg_skip 18 ?_ ?_ (by kernel_rfl) (by kernel_rfl) (by kernel_rfl) (fun _ _ _ h => h) ?_ (by assumption) ?_
      rotate_left 1
      · simp only [List.getElem?_toArray, List.getElem?_cons_succ, List.getElem?_cons_zero]; exact rfl
      · rfl
      try simp only [Act.put]
      try simp only [List.setIfInBounds_toArray, List.set_cons_zero, List.set_cons_succ]
      refine reg_skip 19 ?_ ?_ (by kernel_rfl) (by kernel_rfl) (by kernel_rfl) (fun _ _ _ h => h) ?_ (by assumption) ?_
      rotate_left 1
      · simp only [List.getElem?_toArray, List.getElem?_cons_succ, List.getElem?_cons_zero]; exact rfl
      · rfl
      try simp only [Act.put]
      try simp only [List.setIfInBounds_toArray, List.set_cons_zero, List.set_cons_succ]
      refine reg_skip 20 ?_ ?_ (by kernel_rfl) (by kernel_rfl) (by kernel_rfl) (fun _ _ _ h => h) ?_ (by assumption) ?_
      rotate_left 1
      · simp only [List.getElem?_toArray, List.getElem?_cons_succ, List.getElem?_cons_zero]; exact rfl
      · rfl
      try simp only [Act.put]
      try simp only [List.setIfInBounds_toArray, List.set_cons_zero, List.set_cons_succ]
      refine reg_skip 21 ?_ ?_ (by kernel_rfl) (by kernel_rfl) (by kernel_rfl) (fun _ _ _ h => h) ?_ (by assumption) ?_
      rotate_left 1
      · simp only [List.getElem?_toArray, List.getElem?_cons_succ, List.getElem?_cons_zero]; exact rfl
      · rfl
      try simp only [Act.put]
      try simp only [List.setIfInBounds_toArray, List.set_cons_zero, List.set_cons_succ]
      refine reg_skip 22 ?_ ?_ (by kernel_rfl) (by kernel_rfl) (by kernel_rfl) (fun _ _ _ h => h) ?_ (by assumption) ?_
      rotate_left 1
      · simp only [List.getElem?_toArray, List.getElem?_cons_succ, List.getElem?_cons_zero]; exact rfl
      · rfl
      try simp only [Act.put]
      try simp only [List.setIfInBounds_toArray, List.set_cons_zero, List.set_cons_succ]
      refine reg_skip 23 ?_ ?_ (by kernel_rfl) (by kernel_rfl) (by kernel_rfl) (fun _ _ _ h => h) ?_ (by assumption) ?_
      rotate_left 1
      · simp only [List.getElem?_toArray, List.getElem?_cons_succ, List.getElem?_cons_zero]; exact rfl
      · rfl
      try simp only [Act.put]
      try simp only [List.setIfInBounds_toArray, List.set_cons_zero, List.set_cons_succ]
      refine reg_take 24 ?_ ?_ ?_ (by kernel_rfl) (by kernel_rfl) (by kernel_rfl) (fun _ _ _ h => h) ?_ ?_ (by assumption) ?_
      rotate_left 2
      · simp only [List.getElem?_toArray, List.getElem?_cons_succ, List.getElem?_cons_zero]; exact rfl
      · rfl
      · intro w hSw; (try dsimp only at hSw); go_simp; try with_reducible rfl
      try simp only [Act.put]
      try simp only [List.setIfInBounds_toArray, List.set_cons_zero, List.set_cons_succ]
      refine reg_take 25 ?_ ?_ ?_ (by kernel_rfl) (by kernel_rfl) (by kernel_rfl) (fun _ _ _ h => h) ?_ ?_ (by assumption) ?_
      rotate_left 2
      · simp only [List.getElem?_toArray, List.getElem?_cons_succ, List.getElem?_cons_zero]; exact rfl
      · rfl
      · intro w hSw; (try dsimp only at hSw); go_simp; try with_reducible rfl
      try simp only [Act.put]
      try simp only [List.setIfInBounds_toArray, List.set_cons_zero, List.set_cons_succ]
      refine reg_take 26 ?_ ?_ ?_ (by kernel_rfl) (by kernel_rfl) (by kernel_rfl) (fun _ _ _ h => h) ?_ ?_ (by assumption) ?_
      rotate_left 2
      · simp only [List.getElem?_toArray, List.getElem?_cons_succ, List.getElem?_cons_zero]; exact rfl
      · rfl
      · intro w hSw; (try dsimp only at hSw); go_simp; try with_reducible rfl
      try simp only [Act.put]
      try simp only [List.setIfInBounds_toArray, List.set_cons_zero, List.set_cons_succ]
      refine reg_take 27 ?_ ?_ ?_ (by kernel_rfl) (by kernel_rfl) (by kernel_rfl) (fun _ _ _ h => h) ?_ ?_ (by assumption) ?_
      rotate_left 2
      · simp only [List.getElem?_toArray, List.getElem?_cons_succ, List.getElem?_cons_zero]; exact rfl
      · rfl
      · intro w hSw; (try dsimp only at hSw); go_simp; try with_reducible rfl
      try simp only [Act.put]
      try simp only [List.setIfInBounds_toArray, List.set_cons_zero, List.set_cons_succ]
      refine reg_take 28 ?_ ?_ ?_ (by kernel_rfl) (by kernel_rfl) (by kernel_rfl) (fun _ _ _ h => h) ?_ ?_ (by assumption) ?_
      rotate_left 2
      · simp only [List.getElem?_toArray, List.getElem?_cons_succ, List.getElem?_cons_zero]; exact rfl
      · rfl
      · intro w hSw; (try dsimp only at hSw); go_simp; try with_reducible rfl
      try simp only [Act.put]
      try simp only [List.setIfInBounds_toArray, List.set_cons_zero, List.set_cons_succ]
      refine reg_take 29 ?_ ?_ ?_ (by kernel_rfl) (by kernel_rfl) (by kernel_rfl) (fun _ _ _ h => h) ?_ ?_ (by assumption) ?_
      rotate_left 2
      · simp only [List.getElem?_toArray, List.getElem?_cons_succ, List.getElem?_cons_zero]; exact rfl
      · rfl
      · intro w hSw; (try dsimp only at hSw); go_simp; try with_reducible rfl
      try simp only [Act.put]
      try simp only [List.setIfInBounds_toArray, List.set_cons_zero, List.set_cons_succ]
      refine reg_take 30 ?_ ?_ ?_ (by kernel_rfl) (by kernel_rfl) (by kernel_rfl) (fun _ _ _ h => h) ?_ ?_ (by assumption) ?_
      rotate_left 2
      · simp only [List.getElem?_toArray, List.getElem?_cons_succ, List.getElem?_cons_zero]; exact rfl
      · rfl
      · intro w hSw; (try dsimp only at hSw); go_simp; try with_reducible rfl
      try simp only [Act.put]
      try simp only [List.setIfInBounds_toArray, List.set_cons_zero, List.set_cons_succ]
      refine reg_take 31 ?_ ?_ ?_ (by kernel_rfl) (by kernel_rfl) (by kernel_rfl) (fun _ _ _ h => h) ?_ ?_ (by assumption) ?_
      rotate_left 2
      · simp only [List.getElem?_toArray, List.getElem?_cons_succ, List.getElem?_cons_zero]; exact rfl
      · rfl
      · intro w hSw; (try dsimp only at hSw); go_simp; try with_reducible rfl
      try simp only [Act.put]
      try simp only [List.setIfInBounds_toArray, List.set_cons_zero, List.set_cons_succ]
      refine reg_take 32 ?_ ?_ ?_ (by kernel_rfl) (by kernel_rfl) (by kernel_rfl) (fun _ _ _ h => h) ?_ ?_ (by assumption) ?_
      rotate_left 2
      · simp only [List.getElem?_toArray, List.getElem?_cons_succ, List.getElem?_cons_zero]; exact rfl
      · rfl
      · intro w hSw; (try dsimp only at hSw); go_simp; try with_reducible rfl
      try simp only [Act.put]
      try simp only [List.setIfInBounds_toArray, List.set_cons_zero, List.set_cons_succ]
      refine reg_take 33 ?_ ?_ ?_ (by kernel_rfl) (by kernel_rfl) (by kernel_rfl) (fun _ _ _ h => h) ?_ ?_ (by assumption) ?_
      rotate_left 2
      · simp only [List.getElem?_toArray, List.getElem?_cons_succ, List.getElem?_cons_zero]; exact rfl
      · rfl
      · intro w hSw; (try dsimp only at hSw); go_simp; try with_reducible rfl
      try simp only [Act.put]
      try simp only [List.setIfInBounds_toArray, List.set_cons_zero, List.set_cons_succ]
      refine reg_take 34 ?_ ?_ ?_ (by kernel_rfl) (by kernel_rfl) (by kernel_rfl) (fun _ _ _ h => h) ?_ ?_ (by assumption) ?_
      rotate_left 2
      · simp only [List.getElem?_toArray, List.getElem?_cons_succ, List.getElem?_cons_zero]; exact rfl
      · rfl
      · intro w hSw; (try dsimp only at hSw); go_simp; try with_reducible rfl
      try simp only [Act.put]
      try simp only [List.setIfInBounds_toArray, List.set_cons_zero, List.set_cons_succ]
      refine reg_take 35 ?_ ?_ ?_ (by kernel_rfl) (by kernel_rfl) (by kernel_rfl) (fun _ _ _ h => h) ?_ ?_ (by assumption) ?_
      rotate_left 2
      · simp only [List.getElem?_toArray, List.getElem?_cons_succ, List.getElem?_cons_zero]; exact rfl
      · rfl
      · intro w hSw; (try dsimp only at hSw); go_simp; try with_reducible rfl
      try simp only [Act.put]
      try simp only [List.setIfInBounds_toArray, List.set_cons_zero, List.set_cons_succ]
      refine reg_take 36 ?_ ?_ ?_ (by kernel_rfl) (by kernel_rfl) (by kernel_rfl) (fun _ _ _ h => h) ?_ ?_ (by assumption) ?_
      rotate_left 2
      · simp only [List.getElem?_toArray, List.getElem?_cons_succ, List.getElem?_cons_zero]; exact rfl
      · rfl
      · intro w hSw; (try dsimp only at hSw); go_simp; try with_reducible rfl
      try simp only [Act.put]
      try simp only [List.setIfInBounds_toArray, List.set_cons_zero, List.set_cons_succ]
      refine reg_take 37 ?_ ?_ ?_ (by kernel_rfl) (by kernel_rfl) (by kernel_rfl) (fun _ _ _ h => h) ?_ ?_ (by assumption) ?_
      rotate_left 2
      · simp only [List.getElem?_toArray, List.getElem?_cons_succ, List.getElem?_cons_zero]; exact rfl
      · rfl
      · intro w hSw; (try dsimp only at hSw); go_simp; try with_reducible rfl
      try simp only [Act.put]
      try simp only [List.setIfInBounds_toArray, List.set_cons_zero, List.set_cons_succ]
      refine reg_take 38 ?_ ?_ ?_ (by kernel_rfl) (by kernel_rfl) (by kernel_rfl) (fun _ _ _ h => h) ?_ ?_ (by assumption) ?_
      rotate_left 2
      · simp only [List.getElem?_toArray, List.getElem?_cons_succ, List.getElem?_cons_zero]; exact rfl
      · rfl
      · intro w hSw; (try dsimp only at hSw); go_simp; try with_reducible rfl
      try simp only [Act.put]
      try simp only [List.setIfInBounds_toArray, List.set_cons_zero, List.set_cons_succ]
      refine reg_take 39 ?_ ?_ ?_ (by kernel_rfl) (by kernel_rfl) (by kernel_rfl) (fun _ _ _ h => h) ?_ ?_ (by assumption) ?_
      rotate_left 2
      · simp only [List.getElem?_toArray, List.getElem?_cons_succ, List.getElem?_cons_zero]; exact rfl
      · rfl
      · intro w hSw; (try dsimp only at hSw); go_simp; try with_reducible rfl
      try simp only [Act.put]
      try simp only [List.setIfInBounds_toArray, List.set_cons_zero, List.set_cons_succ]
      refine reg_take 41 ?_ ?_ ?_ (by kernel_rfl) (by kernel_rfl) (by kernel_rfl) (fun _ _ _ h => h) ?_ ?_ (by assumption) ?_
      rotate_left 2
      · simp only [List.getElem?_toArray, List.getElem?_cons_succ, List.getElem?_cons_zero]; exact rfl
      · rfl
      · intro w hSw; (try dsimp only at hSw); go_simp; try with_reducible rfl
      try simp only [Act.put]
      try simp only [List.setIfInBounds_toArray, List.set_cons_zero, List.set_cons_succ]
      refine reg_take 42 ?_ ?_ ?_ (by kernel_rfl) (by kernel_rfl) (by kernel_rfl) (fun _ _ _ h => h) ?_ ?_ (by assumption) ?_
      rotate_left 2
      · simp only [List.getElem?_toArray, List.getElem?_cons_succ, List.getElem?_cons_zero]; exact rfl
      · rfl
      · intro w hSw; (try dsimp only at hSw); go_simp; try with_reducible rfl
      try simp only [Act.put]
      try simp only [List.setIfInBounds_toArray, List.set_cons_zero, List.set_cons_succ]
      refine reg_take 43 ?_ ?_ ?_ (by kernel_rfl) (by kernel_rfl) (by kernel_rfl) (fun _ _ _ h => h) ?_ ?_ (by assumption) ?_
      rotate_left 2
      · simp only [List.getElem?_toArray, List.getElem?_cons_succ, List.getElem?_cons_zero]; exact rfl
      · rfl
      · intro w hSw; (try dsimp only at hSw); go_simp; try with_reducible rfl
      try simp only [Act.put]
      try simp only [List.setIfInBounds_toArray, List.set_cons_zero, List.set_cons_succ]
      refine reg_take 44 ?_ ?_ ?_ (by kernel_rfl) (by kernel_rfl) (by kernel_rfl) (fun _ _ _ h => h) ?_ ?_ (by assumption) ?_
      rotate_left 2
      · simp only [List.getElem?_toArray, List.getElem?_cons_succ, List.getElem?_cons_zero]; exact rfl
      · rfl
      · intro w hSw; (try dsimp only at hSw); go_simp; try with_reducible rfl
      try simp only [Act.put]
      try simp only [List.setIfInBounds_toArray, List.set_cons_zero, List.set_cons_succ]
      refine reg_take 45 ?_ ?_ ?_ (by kernel_rfl) (by kernel_rfl) (by kernel_rfl) (fun _ _ _ h => h) ?_ ?_ (by assumption) ?_
      rotate_left 2
      · simp only [List.getElem?_toArray, List.getElem?_cons_succ, List.getElem?_cons_zero]; exact rfl
      · rfl
      · intro w hSw; (try dsimp only at hSw); go_simp; try with_reducible rfl
      try simp only [Act.put]
      try simp only [List.setIfInBounds_toArray, List.set_cons_zero, List.set_cons_succ]
      refine reg_call 40 ?_ (by kernel_rfl) ?_ (fun K hK => ?_)
      rotate_left 1
      · simp only [List.getElem?_toArray, List.getElem?_cons_succ, List.getElem?_cons_zero]; exact rfl
      go_simp
      refine (K4.out _).mono ?_
      rintro e w18 ⟨rfl, hb18⟩
      have hB_9 := hB_8.trans (hb18.mono hB_8.size)
      have pA_9 := pA_8.below hb18
      have pB_9 := pB_8.below hb18
      have pC_9 := pC_8.below hb18
      have pD_9 := pD_8.below hb18
      have pM_4 := pM_3.below hb18
      clear hb18 hB_8 pA_8 pB_8 pC_8 pD_8 pM_3
      go_wp2_with fail
      refine hK.out _ _ ⟨pA_9.c0, pA_9.c1, pB_9.c0, pB_9.c1, pC_9.c0, pC_9.c1, pD_9.c0, pD_9.c1, pM_4.c0, pM_4.c1⟩ (fun hHeld => ?_)
      clear hK K
      try simp only [Act.put]
      try simp only [List.setIfInBounds_toArray, List.set_cons_zero, List.set_cons_succ]
      refine reg_take 46 ?_ ?_ ?_ (by kernel_rfl) (by kernel_rfl) (by kernel_rfl) (fun _ _ _ h => h) ?_ ?_ (by assumption) ?_
      rotate_left 2
      · simp only [List.getElem?_toArray, List.getElem?_cons_succ, List.getElem?_cons_zero]; exact rfl
      · rfl
      · intro w hSw; (try dsimp only at hSw); go_simp; try with_reducible rfl
      try simp only [Act.put]
      try simp only [List.setIfInBounds_toArray, List.set_cons_zero, List.set_cons_succ]
      refine reg_take 47 ?_ ?_ ?_ (by kernel_rfl) (by kernel_rfl) (by kernel_rfl) (fun _ _ _ h => h) ?_ ?_ (by assumption) ?_
      rotate_left 2
      · simp only [List.getElem?_toArray, List.getElem?_cons_succ, List.getElem?_cons_zero]; exact rfl
      · rfl
      · intro w hSw; (try dsimp only at hSw); go_simp; try with_reducible rfl
      try simp only [Act.put]
      try simp only [List.setIfInBounds_toArray, List.set_cons_zero, List.set_cons_succ]
      refine reg_take 48 ?_ ?_ ?_ (by kernel_rfl) (by kernel_rfl) (by kernel_rfl) (fun _ _ _ h => h) ?_ ?_ (by assumption) ?_
      rotate_left 2
      · simp only [List.getElem?_toArray, List.getElem?_cons_succ, List.getElem?_cons_zero]; exact rfl
      · rfl
      · intro w hSw; (try dsimp only at hSw); go_simp; try with_reducible rfl
      try simp only [Act.put]
      try simp only [List.setIfInBounds_toArray, List.set_cons_zero, List.set_cons_succ]
      refine wpAnyH_done (by kernel_rfl) ?_ _
      refine NoPanic.normal ?_
      go_wp2
      all_goals go_ret
      all_goals exact ⟨rfl, hB_9⟩
    · right
      refine ⟨?_, fun i hi => ?_⟩
      · clear zF zz0 zz1 zz2 zz3 n0_1 n0_2 n0_3 n1_2 n1_3 n2_3
        obtain rfl : k = 0 := by omega
        all_goals cases bb0
        all_goals cases bb1
        all_goals cases bb2
        all_goals cases bb3
        all_goals first | exact absurd ⟨rfl, rfl, rfl, rfl, rfl⟩ hL | exact of_decide_eq_true (by kernel_rfl)
      have hd : (bb0 = false ∧ i = 12) ∨ (bb1 = false ∧ i = 13) ∨ (bb2 = false ∧ i = 14) ∨ (bb3 = false ∧ i = 15) := by
        clear zF zz0 zz1 zz2 zz3 n0_1 n0_2 n0_3 n1_2 n1_3 n2_3
        revert i
        obtain rfl : k = 0 := by omega
        all_goals cases bb0
        all_goals cases bb1
        all_goals cases bb2
        all_goals cases bb3
        all_goals first | exact absurd ⟨rfl, rfl, rfl, rfl, rfl⟩ hL | exact of_decide_eq_true (by kernel_rfl)
      clear hi hL
      rcases hd with ⟨rfl, rfl⟩ | ⟨rfl, rfl⟩ | ⟨rfl, rfl⟩ | ⟨rfl, rfl⟩
      · refine step_of 12 ?_ ?_ (fun K hK => ?_)
        rotate_left 1
        · simp only [List.getElem?_toArray, List.getElem?_cons_succ, List.getElem?_cons_zero]; exact rfl
        rw [HAj.out]
        try simp only [Act.put]
        try simp only [List.setIfInBounds_toArray, List.set_cons_zero, List.set_cons_succ]
        go_simp
        have hgn := mFj zF
        have hl1 : bb1 = true → gpB < w10.heap.size := fun h => (zz1 h).2.1.lt
        have hl2 : bb2 = true → gpC < w10.heap.size := fun h => (zz2 h).2.1.lt
        have hl3 : bb3 = true → gpD < w10.heap.size := fun h => (zz3 h).2.1.lt
        obtain ⟨wn, hwn, pA_0, hb, -⟩ := new_box w10 _ rfl [.int .i64 0, .int .i64 0] 23
        rw [hwn]
        refine hK.out _ _ (sFj (cFj zF hb)) ?_
        exact (hIVj _ _ _).2 ⟨k, true, bb1, bb2, bb3, (.pointer (some ⟨w10.heap.size, 0, none⟩)), p1_, p2_, p3_, w10.heap.size, gpB, gpC, gpD, hk, rfl, (by simp only [HAj.out, Act.put, List.setIfInBounds_toArray, List.set_cons_zero, List.set_cons_succ]), (cFj zF hb), (fun _ => ⟨rfl, pA_0, hgn⟩), (fun h => ⟨(zz1 h).1, (zz1 h).2.1.below hb, (zz1 h).2.2⟩), (fun h => ⟨(zz2 h).1, (zz2 h).2.1.below hb, (zz2 h).2.2⟩), (fun h => ⟨(zz3 h).1, (zz3 h).2.1.below hb, (zz3 h).2.2⟩), (fun _ h => by have := hl1 h; omega), (fun _ h => by have := hl2 h; omega), (fun _ h => by have := hl3 h; omega), n1_2, n1_3, n2_3⟩
      · refine step_of 13 ?_ ?_ (fun K hK => ?_)
        rotate_left 1
        · simp only [List.getElem?_toArray, List.getElem?_cons_succ, List.getElem?_cons_zero]; exact rfl
        rw [HAj.out]
        try simp only [Act.put]
        try simp only [List.setIfInBounds_toArray, List.set_cons_zero, List.set_cons_succ]
        go_simp
        have hgn := mFj zF
        have hl0 : bb0 = true → gpA < w10.heap.size := fun h => (zz0 h).2.1.lt
        have hl2 : bb2 = true → gpC < w10.heap.size := fun h => (zz2 h).2.1.lt
        have hl3 : bb3 = true → gpD < w10.heap.size := fun h => (zz3 h).2.1.lt
        obtain ⟨wn, hwn, pB_0, hb, -⟩ := new_box w10 _ rfl [.int .i64 0, .int .i64 0] 23
        rw [hwn]
        refine hK.out _ _ (sFj (cFj zF hb)) ?_
        exact (hIVj _ _ _).2 ⟨k, bb0, true, bb2, bb3, p0_, (.pointer (some ⟨w10.heap.size, 0, none⟩)), p2_, p3_, gpA, w10.heap.size, gpC, gpD, hk, rfl, (by simp only [HAj.out, Act.put, List.setIfInBounds_toArray, List.set_cons_zero, List.set_cons_succ]), (cFj zF hb), (fun h => ⟨(zz0 h).1, (zz0 h).2.1.below hb, (zz0 h).2.2⟩), (fun _ => ⟨rfl, pB_0, hgn⟩), (fun h => ⟨(zz2 h).1, (zz2 h).2.1.below hb, (zz2 h).2.2⟩), (fun h => ⟨(zz3 h).1, (zz3 h).2.1.below hb, (zz3 h).2.2⟩), (fun h _ => by have := hl0 h; omega), n0_2, n0_3, (fun _ h => by have := hl2 h; omega), (fun _ h => by have := hl3 h; omega), n2_3⟩
      · refine step_of 14 ?_ ?_ (fun K hK => ?_)
        rotate_left 1
        · simp only [List.getElem?_toArray, List.getElem?_cons_succ, List.getElem?_cons_zero]; exact rfl
        rw [HAj.out]
        try simp only [Act.put]
        try simp only [List.setIfInBounds_toArray, List.set_cons_zero, List.set_cons_succ]
        go_simp
        have hgn := mFj zF
        have hl0 : bb0 = true → gpA < w10.heap.size := fun h => (zz0 h).2.1.lt
        have hl1 : bb1 = true → gpB < w10.heap.size := fun h => (zz1 h).2.1.lt
        have hl3 : bb3 = true → gpD < w10.heap.size := fun h => (zz3 h).2.1.lt
        obtain ⟨wn, hwn, pC_0, hb, -⟩ := new_box w10 _ rfl [.int .i64 0, .int .i64 0] 23
        rw [hwn]
        refine hK.out _ _ (sFj (cFj zF hb)) ?_
        exact (hIVj _ _ _).2 ⟨k, bb0, bb1, true, bb3, p0_, p1_, (.pointer (some ⟨w10.heap.size, 0, none⟩)), p3_, gpA, gpB, w10.heap.size, gpD, hk, rfl, (by simp only [HAj.out, Act.put, List.setIfInBounds_toArray, List.set_cons_zero, List.set_cons_succ]), (cFj zF hb), (fun h => ⟨(zz0 h).1, (zz0 h).2.1.below hb, (zz0 h).2.2⟩), (fun h => ⟨(zz1 h).1, (zz1 h).2.1.below hb, (zz1 h).2.2⟩), (fun _ => ⟨rfl, pC_0, hgn⟩), (fun h => ⟨(zz3 h).1, (zz3 h).2.1.below hb, (zz3 h).2.2⟩), n0_1, (fun h _ => by have := hl0 h; omega), n0_3, (fun h _ => by have := hl1 h; omega), n1_3, (fun _ h => by have := hl3 h; omega)⟩
      · refine step_of 15 ?_ ?_ (fun K hK => ?_)
        rotate_left 1
        · simp only [List.getElem?_toArray, List.getElem?_cons_succ, List.getElem?_cons_zero]; exact rfl
        rw [HAj.out]
        try simp only [Act.put]
        try simp only [List.setIfInBounds_toArray, List.set_cons_zero, List.set_cons_succ]
        go_simp
        have hgn := mFj zF
        have hl0 : bb0 = true → gpA < w10.heap.size := fun h => (zz0 h).2.1.lt
        have hl1 : bb1 = true → gpB < w10.heap.size := fun h => (zz1 h).2.1.lt
        have hl2 : bb2 = true → gpC < w10.heap.size := fun h => (zz2 h).2.1.lt
        obtain ⟨wn, hwn, pD_0, hb, -⟩ := new_box w10 _ rfl [.int .i64 0, .int .i64 0] 23
        rw [hwn]
        refine hK.out _ _ (sFj (cFj zF hb)) ?_
        exact (hIVj _ _ _).2 ⟨k, bb0, bb1, bb2, true, p0_, p1_, p2_, (.pointer (some ⟨w10.heap.size, 0, none⟩)), gpA, gpB, gpC, w10.heap.size, hk, rfl, (by simp only [HAj.out, Act.put, List.setIfInBounds_toArray, List.set_cons_zero, List.set_cons_succ]), (cFj zF hb), (fun h => ⟨(zz0 h).1, (zz0 h).2.1.below hb, (zz0 h).2.2⟩), (fun h => ⟨(zz1 h).1, (zz1 h).2.1.below hb, (zz1 h).2.2⟩), (fun h => ⟨(zz2 h).1, (zz2 h).2.1.below hb, (zz2 h).2.2⟩), (fun _ => ⟨rfl, pD_0, hgn⟩), n0_1, n0_2, (fun h _ => by have := hl0 h; omega), n1_2, (fun h _ => by have := hl1 h; omega), (fun h _ => by have := hl2 h; omega)⟩
  · right
    refine ⟨?_, fun i hi => ?_⟩
    · clear zF rr1 rr2 zz0 zz1
      obtain rfl | rfl | rfl : k = 0 ∨ k = 1 ∨ k = 2 := by omega
      all_goals cases bb0
      all_goals cases bb1
      all_goals first | exact absurd ⟨rfl, rfl, rfl⟩ hL | exact absurd (dp0_0 (by decide)) (by decide) | exact absurd (dp1_1 (by decide)) (by decide) | exact of_decide_eq_true (by kernel_rfl)
    have hd : (k = 0 ∧ bb0 = true ∧ i = 1) ∨ (k = 1 ∧ bb1 = true ∧ i = 3) ∨ (bb0 = false ∧ i = 0) ∨ (bb1 = false ∧ i = 2) := by
      clear zF rr1 rr2 zz0 zz1
      revert i
      obtain rfl | rfl | rfl : k = 0 ∨ k = 1 ∨ k = 2 := by omega
      all_goals cases bb0
      all_goals cases bb1
      all_goals first | exact absurd ⟨rfl, rfl, rfl⟩ hL | exact absurd (dp0_0 (by decide)) (by decide) | exact absurd (dp1_1 (by decide)) (by decide) | exact of_decide_eq_true (by kernel_rfl)
    clear hi hL
    rcases hd with ⟨rfl, rfl, rfl⟩ | ⟨rfl, rfl, rfl⟩ | ⟨rfl, rfl⟩ | ⟨rfl, rfl⟩
    · obtain rfl := zz0 rfl
      refine step_of 1 ?_ ?_ (fun K hK => ?_)
      rotate_left 1
      · simp only [List.getElem?_toArray, List.getElem?_cons_succ, List.getElem?_cons_zero]; exact rfl
      rw [HAi.out]
      try simp only [Act.put]
      try simp only [List.setIfInBounds_toArray, List.set_cons_zero, List.set_cons_succ]
      go_simp
      refine (TM0.out _).mono ?_
      rintro e w19 ⟨rfl, hb⟩
      go_wp2_with fail
      refine hK.out _ _ (sFi (cFi zF hb)) ?_
      exact (hIVi _ _ _).2 ⟨1, true, bb1, (.agg #[.int .i64 a0, .int .i64 a1]), v1_, _, p1_, (by omega), rfl, (by simp only [HAi.out, Act.put, List.setIfInBounds_toArray, List.set_cons_zero, List.set_cons_succ]), (cFi zF hb), (fun _ => rfl), (fun h => absurd h (by omega)), (fun _ => rfl), zz1, (fun _ => rfl), (fun h => absurd h (by omega))⟩
    · obtain rfl := rr1 (by omega)
      obtain rfl := dp0_0 (by omega)
      obtain rfl := zz0 rfl
      obtain rfl := zz1 rfl
      refine step_of 3 ?_ ?_ (fun K hK => ?_)
      rotate_left 1
      · simp only [List.getElem?_toArray, List.getElem?_cons_succ, List.getElem?_cons_zero]; exact rfl
      rw [HAi.out]
      try simp only [Act.put]
      try simp only [List.setIfInBounds_toArray, List.set_cons_zero, List.set_cons_succ]
      go_simp
      refine (TM1.out _).mono ?_
      rintro e w20 ⟨rfl, hb⟩
      go_wp2_with fail
      refine hK.out _ _ (sFi (cFi zF hb)) ?_
      exact (hIVi _ _ _).2 ⟨2, true, true, _, (.agg #[.int .i64 b0, .int .i64 b1]), _, _, (by omega), rfl, (by simp only [HAi.out, Act.put, List.setIfInBounds_toArray, List.set_cons_zero, List.set_cons_succ]), (cFi zF hb), (fun _ => rfl), (fun _ => rfl), (fun _ => rfl), (fun _ => rfl), (fun _ => rfl), (fun _ => rfl)⟩
    · obtain ⟨-, pa_0, -, -⟩ := (hFFi _).1 zF
      obtain ⟨pae0, pae1, pae2, pae3⟩ := pa_0.open2
      refine step_of 0 ?_ ?_ (fun K hK => ?_)
      rotate_left 1
      · simp only [List.getElem?_toArray, List.getElem?_cons_zero]; exact rfl
      rw [HAi.out]
      try simp only [Act.put]
      try simp only [List.setIfInBounds_toArray, List.set_cons_zero, List.set_cons_succ]
      go_simp
      refine hK.out _ _ (sFi zF) ?_
      exact (hIVi _ _ _).2 ⟨k, true, bb1, v0_, v1_, (.agg #[.int .i64 x0, .int .i64 x1]), p1_, hk, rfl, (by simp only [HAi.out, Act.put, List.setIfInBounds_toArray, List.set_cons_zero, List.set_cons_succ]), zF, rr1, rr2, (fun _ => rfl), zz1, (fun _ => rfl), dp1_1⟩
    · obtain ⟨-, -, pb_0, -⟩ := (hFFi _).1 zF
      obtain ⟨pbe0, pbe1, pbe2, pbe3⟩ := pb_0.open2
      refine step_of 2 ?_ ?_ (fun K hK => ?_)
      rotate_left 1
      · simp only [List.getElem?_toArray, List.getElem?_cons_succ, List.getElem?_cons_zero]; exact rfl
      rw [HAi.out]
      try simp only [Act.put]
      try simp only [List.setIfInBounds_toArray, List.set_cons_zero, List.set_cons_succ]
      go_simp
      refine hK.out _ _ (sFi zF) ?_
      exact (hIVi _ _ _).2 ⟨k, bb0, true, v0_, v1_, p0_, (.agg #[.int .i64 y0, .int .i64 y1]), hk, rfl, (by simp only [HAi.out, Act.put, List.setIfInBounds_toArray, List.set_cons_zero, List.set_cons_succ]), zF, rr1, rr2, zz0, (fun _ => rfl), dp0_0, (fun _ => rfl)⟩
set_option maxRecDepth 100000 in
set_option maxHeartbeats 64000000 in
theorem PredSquares_w_in (x0 x1 y0 y1 a0 a1 b0 b1 : Int) (c0 c1 d0 d1 r0 r1 h0 h1 m0 m1 t k f0 s : Int) (tm0 : ∀ w, Calls Try.prog 10 #[.agg #[.int .i64 x0, .int .i64 x1]] w fun e w' => e = .returned (.agg #[.int .i64 a0, .int .i64 a1]) ∧ Below w.heap.size w w') (tm1 : ∀ w, Calls Try.prog 10 #[.agg #[.int .i64 y0, .int .i64 y1]] w fun e w' => e = .returned (.agg #[.int .i64 b0, .int .i64 b1]) ∧ Below w.heap.size w w') (k1 : ∀ w, Calls Try.prog 17 #[.agg #[.int .i64 c0, .int .i64 c1], .agg #[.int .i64 d0, .int .i64 c1], .agg #[.int .i64 d0, .int .i64 d1], .agg #[.int .i64 c0, .int .i64 d1]] w fun e w' => e = .returned (.int .i64 0) ∧ Below w.heap.size w w') (k2 : ∀ w, Calls Try.prog 17 #[.agg #[.int .i64 d0, .int .i64 c1], .agg #[.int .i64 d0, .int .i64 d1], .agg #[.int .i64 c0, .int .i64 d1], .agg #[.int .i64 c0, .int .i64 c1]] w fun e w' => e = .returned (.int .i64 0) ∧ Below w.heap.size w w') (k4 : ∀ w, Calls Try.prog 17 #[.agg #[.int .i64 c0, .int .i64 c1], .agg #[.int .i64 d0, .int .i64 c1], .agg #[.int .i64 d0, .int .i64 d1], .agg #[.int .i64 f0, .int .i64 d1]] w fun e w' => e = .returned (.int .i64 s) ∧ Below w.heap.size w w') (k3 : ∀ w, Calls Try.prog 17 #[.agg #[.int .i64 c0, .int .i64 c1], .agg #[.int .i64 d0, .int .i64 c1], .agg #[.int .i64 d0, .int .i64 d1], .agg #[.int .i64 m0, .int .i64 m1]] w fun e w' => e = .returned (.int .i64 1) ∧ Below w.heap.size w w') (em0 : (if b0 < a0 then b0 else a0) = c0) (em1 : (if b1 < a1 then b1 else a1) = c1) (ex0 : (if a0 < b0 then b0 else a0) = d0) (ex1 : (if a1 < b1 then b1 else a1) = d1) (_nx : decide (c0 = d0) = false) (nx' : (c0 == d0) = false) (_ny : decide (c1 = d1) = false) (ny' : (c1 == d1) = false) (e1 : IntKind.i64.wrap (d0 - c0) = r0) (e2 : IntKind.i64.wrap (d1 - c1) = r1) (e3 : IntKind.i64.wrap (r0.tdiv 2) = h0) (e4 : IntKind.i64.wrap (r1.tdiv 2) = h1) (e5 : IntKind.i64.wrap (c0 + h0) = m0) (e6 : IntKind.i64.wrap (c1 + h1) = m1) (e7 : IntKind.i64.wrap (c0 + 2147483648) = t) (e8 : (if t < 1 then t else 1) = k) (e9 : IntKind.i64.wrap (c0 - k) = f0) (e10 : IntKind.i64.wrap (-k) = s) (nm : ∀ w : World, (if m0 = c0 then if m1 = c1 then Result.ok (Next.value (Value.bool false)) w else Result.ok (Next.value (Value.bool true)) w else Result.ok (Next.value (Value.bool true)) w) = Result.ok (Next.value (Value.bool true)) w) (w : World) :
    Calls Try.prog 5 #[.agg #[.int .i64 x0, .int .i64 x1], .agg #[.int .i64 y0, .int .i64 y1]] w fun e w' => e = .returned (.bool true) ∧ Below w.heap.size w w' := by
  have hB_0 := Below.refl w.heap.size w
  have TM0 := Lib.hid tm0; have TM1 := Lib.hid tm1; have K1 := Lib.hid k1; have K2 := Lib.hid k2; have K4 := Lib.hid k4; have K3 := Lib.hid k3; have EM0 := Lib.hid em0; have EM1 := Lib.hid em1; have EX0 := Lib.hid ex0; have EX1 := Lib.hid ex1; have E1 := Lib.hid e1; have E2 := Lib.hid e2; have E3 := Lib.hid e3; have E4 := Lib.hid e4; have E5 := Lib.hid e5; have E6 := Lib.hid e6; have E7 := Lib.hid e7; have E8 := Lib.hid e8; have E9 := Lib.hid e9; have E10 := Lib.hid e10; have NM := Lib.hid nm
  clear tm0 tm1 k1 k2 k4 k3 em0 em1 ex0 ex1 e1 e2 e3 e4 e5 e6 e7 e8 e9 e10 nm
  obtain ⟨w1, hw1, pa_0, hb1, hs1⟩ := new_box w (w.heap.size) rfl [.int .i64 x0, .int .i64 x1] 23
  have hb1' : Below w.heap.size w w1 := hb1.mono (by omega)
  clear hb1
  have hB_1 := hB_0.trans (hb1'.mono hB_0.size)
  clear hb1' hB_0
  obtain ⟨w2, hw2, pb_0, hb2, hs2⟩ := new_box w1 (w.heap.size + 1) hs1 [.int .i64 y0, .int .i64 y1] 23
  have hb2' : Below w1.heap.size w1 w2 := hb2.mono (by omega)
  clear hb2
  have hB_2 := hB_1.trans (hb2'.mono hB_1.size)
  have pa_1 := pa_0.below hb2'
  clear hb2' hB_1 pa_0
  go_enter Try.func5, Try.ntmps5
  obtain ⟨pae0, pae1, pae2, pae3⟩ := pa_1.open2
  obtain ⟨pbe0, pbe1, pbe2, pbe3⟩ := pb_0.open2
  go_wp2_with fail
  refine (pfit_any _).mono ?_
  rintro e w3 ⟨rfl, hb3⟩
  clear pae0 pae1 pae2 pae3 pbe0 pbe1 pbe2 pbe3
  have hB_3 := hB_2.trans (hb3.mono hB_2.size)
  have pa_2 := pa_1.below hb3
  have pb_1 := pb_0.below hb3
  clear hb3 hB_2 pa_1 pb_0
  obtain ⟨pae0, pae1, pae2, pae3⟩ := pa_2.open2
  obtain ⟨pbe0, pbe1, pbe2, pbe3⟩ := pb_1.open2
  go_wp2
  clear pae0 pae1 pae2 pae3 pbe0 pbe1 pbe2 pbe3
  have hWi_0 := Below.refl w3.heap.size w3
  have hsi : w.heap.size ≤ w3.heap.size := hB_3.size
  have hlipa := pa_2.lt
  have hlipb := pb_1.lt
  have hB_4 := hB_3.drew'
  have pa_3 := pa_2.drew
  have pb_2 := pb_1.drew
  have hWi_1 := hWi_0.drew'
  clear hB_3 pa_2 pb_1 hWi_0
  obtain ⟨FFi, hFFi⟩ : ∃ F : World → Prop, ∀ w', F w' ↔ (Below w.heap.size w w' ∧ Box w' (w.heap.size) [.int .i64 x0, .int .i64 x1] ∧ Box w' (w.heap.size + 1) [.int .i64 y0, .int .i64 y1] ∧ Below w3.heap.size w3 w') := ⟨_, fun _ => Iff.rfl⟩
  have cFi : ∀ {w' w'' : World}, FFi w' → Below w'.heap.size w' w'' → FFi w'' := by
    intro w' w'' h hb
    obtain ⟨y0, y1, y2, y3⟩ := (hFFi _).1 h
    exact (hFFi _).2 ⟨y0.trans (hb.mono y0.size), y1.below hb, y2.below hb, y3.trans (hb.mono y3.size)⟩
  have mFi : ∀ {w' : World}, FFi w' → w3.heap.size ≤ w'.heap.size := by
    intro w' h
    obtain ⟨y0, y1, y2, y3⟩ := (hFFi _).1 h
    exact y3.size
  have sFi : ∀ {w' : World}, FFi w' → (True) := by
    intro w' h
    obtain ⟨y0, y1, y2, y3⟩ := (hFFi _).1 h
    exact trivial
  have zF : FFi w3.drew := (hFFi _).2 ⟨hB_4, pa_3, pb_2, hWi_1⟩
  clear hB_4 pa_3 pb_2 hWi_1
  refine wp_region_noPanic ?_
  refine wp_region_held_drew (S := fun w' => True) (by kernel_rfl) (sFi zF) (fun hHeld => ?_)
  refine reg_grab (fun WWi ai hWW hAA => ?_)
  rw [hWW]
  have HAi := Lib.hid hAA; clear hWW hAA hHeld
  obtain ⟨IVi, hIVi⟩ : ∃ IV : Array Bool → Act → World → Prop, ∀ l a w', IV l a w' ↔ ∃ (k : Nat) (bb0 bb1 : Bool) (v0_ v1_ p0_ p1_ : Value), k ≤ 2 ∧ l = #[bb0, decide (1 ≤ k), bb1, decide (2 ≤ k), false, false] ∧ a = ((((ai.put (some 14) v0_).put (some 16) v1_).put (some 13) p0_).put (some 15) p1_) ∧ FFi w' ∧ (1 ≤ k → v0_ = .agg #[.int .i64 a0, .int .i64 a1]) ∧ (2 ≤ k → v1_ = .agg #[.int .i64 b0, .int .i64 b1]) ∧ (bb0 = true → p0_ = .agg #[.int .i64 x0, .int .i64 x1]) ∧ (bb1 = true → p1_ = .agg #[.int .i64 y0, .int .i64 y1]) ∧ (1 ≤ k → bb0 = true) ∧ (2 ≤ k → bb1 = true) := ⟨_, fun _ _ _ => Iff.rfl⟩
  refine wpAnyH_until IVi ?_ _ _ _ _ ((hIVi _ _ _).2 ⟨0, false, false, (ai.tmps.getD 14 undef), (ai.tmps.getD 16 undef), (ai.tmps.getD 13 undef), (ai.tmps.getD 15 undef), Nat.zero_le _, rfl, (by simp only [put_same]), zF, (fun h => absurd h (by omega)), (fun h => absurd h (by omega)), (fun h => by cases h), (fun h => by cases h), (fun h => absurd h (by omega)), (fun h => absurd h (by omega))⟩) (by kernel_rfl)
  clear zF
  intro ll aa w4 hI
  obtain ⟨k, bb0, bb1, v0_, v1_, p0_, p1_, hk, rfl, rfl, zF, rr1, rr2, zz0, zz1, dp0_0, dp1_1⟩ := (hIVi _ _ _).1 hI
  clear hI
  by_cases hL : k = 2 ∧ bb0 = true ∧ bb1 = true
  · left
    obtain ⟨rfl, rfl, rfl⟩ := hL
    obtain rfl := rr1 (by omega)
    obtain rfl := rr2 (by omega)
    obtain rfl := zz0 rfl
    obtain rfl := zz1 rfl
    clear hk dp0_0 dp1_1
    show wpAnyH _ _ _ _ _ 2 _ _ _
    rw [HAi.out]
    try simp only [Act.put]
    try simp only [List.setIfInBounds_toArray, List.set_cons_zero, List.set_cons_succ]
    obtain ⟨hB_0, pa_0, pb_0, hWi_0⟩ := (hFFi _).1 zF
    clear zF
    clear hWi_0
    obtain ⟨sf1a, sf1b, sf1c, sf1d⟩ := pa_0.open2
    obtain ⟨sg1a, sg1b⟩ := Box.put2 pa_0 (.int .i64 a0)
    refine reg_call 4 ?_ (by kernel_rfl) ?_ (fun K hK => ?_)
    rotate_left 1
    · simp only [List.getElem?_toArray, List.getElem?_cons_succ, List.getElem?_cons_zero]; exact rfl
    go_simp
    have hB_1 := below_setAll hB_0 (g := w.heap.size) (by omega) [.int .i64 a0, .int .i64 a1]
    have pb_1 := pb_0.farAll (g' := w.heap.size) (by omega) [.int .i64 a0, .int .i64 a1]
    have pa_1 := pa_0.setAll [.int .i64 a0, .int .i64 a1] rfl
    simp only [setAll, Nat.zero_add] at hB_1 pa_1 pb_1
    clear sf1a sf1b sf1c sf1d sg1a sg1b
    clear hB_0 pb_0 pa_0
    refine hK.out _ _ trivial (fun hHeld => ?_)
    clear hK K
    try simp only [Act.put]
    try simp only [List.setIfInBounds_toArray, List.set_cons_zero, List.set_cons_succ]
    generalize (World.setCell (World.setCell w4 ⟨w.heap.size, 0, none⟩ (.int .i64 a0)) ⟨w.heap.size, 1, none⟩ (.int .i64 a1)) = w5 at *
    obtain ⟨sf2a, sf2b, sf2c, sf2d⟩ := pb_1.open2
    obtain ⟨sg2a, sg2b⟩ := Box.put2 pb_1 (.int .i64 b0)
    refine reg_call 5 ?_ (by kernel_rfl) ?_ (fun K hK => ?_)
    rotate_left 1
    · simp only [List.getElem?_toArray, List.getElem?_cons_succ, List.getElem?_cons_zero]; exact rfl
    go_simp
    have hB_2 := below_setAll hB_1 (g := w.heap.size + 1) (by omega) [.int .i64 b0, .int .i64 b1]
    have pa_2 := pa_1.farAll (g' := w.heap.size + 1) (by omega) [.int .i64 b0, .int .i64 b1]
    have pb_2 := pb_1.setAll [.int .i64 b0, .int .i64 b1] rfl
    simp only [setAll, Nat.zero_add] at hB_2 pa_2 pb_2
    clear sf2a sf2b sf2c sf2d sg2a sg2b
    clear hB_1 pa_1 pb_1
    refine hK.out _ _ trivial (fun hHeld => ?_)
    clear hK K
    try simp only [Act.put]
    try simp only [List.setIfInBounds_toArray, List.set_cons_zero, List.set_cons_succ]
    generalize (World.setCell (World.setCell w5 ⟨w.heap.size + 1, 0, none⟩ (.int .i64 b0)) ⟨w.heap.size + 1, 1, none⟩ (.int .i64 b1)) = w6 at *
    refine wpAnyH_done (by kernel_rfl) ?_ _
    refine NoPanic.normal ?_
    obtain ⟨pae0, pae1, pae2, pae3⟩ := pa_2.open2
    obtain ⟨pbe0, pbe1, pbe2, pbe3⟩ := pb_2.open2
    try go_wp2
    have em0 := EM0.out
    have em1 := EM1.out
    have ex0 := EX0.out
    have ex1 := EX1.out
    clear pae0 pae1 pae2 pae3 pbe0 pbe1 pbe2 pbe3
    have hB_3 := hB_2.drew'
    clear hB_2
    have pa_3 := pa_2.drew
    clear pa_2
    have pb_3 := pb_2.drew
    clear pb_2
    obtain ⟨SSg, hSSg⟩ : ∃ S : Array Bool → World → Prop, ∀ l w', S l w' ↔ ((l.getD 22 true = false → w'.cell? ⟨w.heap.size, 0, none⟩ = some (.int .i64 a0) ∧ w'.cell? ⟨w.heap.size, 1, none⟩ = some (.int .i64 a1)) ∧ (l.getD 23 true = false → w'.cell? ⟨w.heap.size + 1, 0, none⟩ = some (.int .i64 b0) ∧ w'.cell? ⟨w.heap.size + 1, 1, none⟩ = some (.int .i64 b1))) := ⟨_, fun _ _ => Iff.rfl⟩
    refine wp_region_noPanic ?_
    refine wp_region_G SSg 24 #[false, false, false, false, false, false, false, false, false, false, false, false, false, false, false, false, false, false, false, false, false, false, false, false] (by kernel_rfl) (by kernel_rfl) (by kernel_rfl) ((hSSg _ _).2 ⟨(fun _ => ⟨pa_3.c0, pa_3.c1⟩), (fun _ => ⟨pb_3.c0, pb_3.c1⟩)⟩) (fun hCl hHeld => ?_)
    generalize w6.drew = w7 at *
    refine reg_takeG 0 ?_ ?_ ?_ (by kernel_rfl) (by kernel_rfl) (by kernel_rfl) (fun _ _ _ h => h) ?_ ?_ ?_ hCl hHeld ?_
    rotate_left 2
    · simp only [List.getElem?_toArray, List.getElem?_cons_zero]; exact rfl
    · intro l w'; rw [hSSg, hSSg]; rw [getD_set_ne (i := 0) (j := 22) true (by decide)]; rw [getD_set_ne (i := 0) (j := 23) true (by decide)]
    · rfl
    · intro w' hA; clear hA; go_simp; try with_reducible rfl
    clear hCl hHeld
    intro hCl hHeld
    simp only [List.setIfInBounds_toArray, List.set_cons_zero] at hCl hHeld
    try simp only [Act.put]
    try simp only [List.setIfInBounds_toArray, List.set_cons_zero, List.set_cons_succ]
    refine reg_takeG 1 ?_ ?_ ?_ (by kernel_rfl) (by kernel_rfl) (by kernel_rfl) (fun _ _ _ h => h) ?_ ?_ ?_ hCl hHeld ?_
    rotate_left 2
    · simp only [List.getElem?_toArray, List.getElem?_cons_succ, List.getElem?_cons_zero]; exact rfl
    · intro l w'; rw [hSSg, hSSg]; rw [getD_set_ne (i := 1) (j := 22) true (by decide)]; rw [getD_set_ne (i := 1) (j := 23) true (by decide)]
    · rfl
    · intro w' hA; obtain ⟨l, hl, hi, hSl⟩ := hA; have hSl := (hSSg _ _).1 hSl; obtain ⟨hy0, hy1⟩ := hSl; obtain ⟨hz0_0, hz0_1⟩ := hy0 (hl.not (t := 22) (by kernel_rfl) hi); obtain ⟨hz1_0, hz1_1⟩ := hy1 (hl.not (t := 23) (by kernel_rfl) hi); go_simp; try with_reducible rfl
    clear hCl hHeld
    intro hCl hHeld
    simp only [List.setIfInBounds_toArray, List.set_cons_zero, List.set_cons_succ] at hCl hHeld
    try simp only [Act.put]
    try simp only [List.setIfInBounds_toArray, List.set_cons_zero, List.set_cons_succ]
    refine reg_takeG 2 ?_ ?_ ?_ (by kernel_rfl) (by kernel_rfl) (by kernel_rfl) (fun _ _ _ h => h) ?_ ?_ ?_ hCl hHeld ?_
    rotate_left 2
    · simp only [List.getElem?_toArray, List.getElem?_cons_succ, List.getElem?_cons_zero]; exact rfl
    · intro l w'; rw [hSSg, hSSg]; rw [getD_set_ne (i := 2) (j := 22) true (by decide)]; rw [getD_set_ne (i := 2) (j := 23) true (by decide)]
    · rfl
    · intro w' hA; clear hA; go_simp; try with_reducible rfl
    clear hCl hHeld
    intro hCl hHeld
    simp only [List.setIfInBounds_toArray, List.set_cons_zero, List.set_cons_succ] at hCl hHeld
    try simp only [Act.put]
    try simp only [List.setIfInBounds_toArray, List.set_cons_zero, List.set_cons_succ]
    refine reg_takeG 3 ?_ ?_ ?_ (by kernel_rfl) (by kernel_rfl) (by kernel_rfl) (fun _ _ _ h => h) ?_ ?_ ?_ hCl hHeld ?_
    rotate_left 2
    · simp only [List.getElem?_toArray, List.getElem?_cons_succ, List.getElem?_cons_zero]; exact rfl
    · intro l w'; rw [hSSg, hSSg]; rw [getD_set_ne (i := 3) (j := 22) true (by decide)]; rw [getD_set_ne (i := 3) (j := 23) true (by decide)]
    · rfl
    · intro w' hA; obtain ⟨l, hl, hi, hSl⟩ := hA; have hSl := (hSSg _ _).1 hSl; obtain ⟨hy0, hy1⟩ := hSl; obtain ⟨hz0_0, hz0_1⟩ := hy0 (hl.not (t := 22) (by kernel_rfl) hi); obtain ⟨hz1_0, hz1_1⟩ := hy1 (hl.not (t := 23) (by kernel_rfl) hi); go_simp; try with_reducible rfl
    clear hCl hHeld
    intro hCl hHeld
    simp only [List.setIfInBounds_toArray, List.set_cons_zero, List.set_cons_succ] at hCl hHeld
    try simp only [Act.put]
    try simp only [List.setIfInBounds_toArray, List.set_cons_zero, List.set_cons_succ]
    refine reg_takeG 4 ?_ ?_ ?_ (by kernel_rfl) (by kernel_rfl) (by kernel_rfl) (fun _ _ _ h => h) ?_ ?_ ?_ hCl hHeld ?_
    rotate_left 2
    · simp only [List.getElem?_toArray, List.getElem?_cons_succ, List.getElem?_cons_zero]; exact rfl
    · intro l w'; rw [hSSg, hSSg]; rw [getD_set_ne (i := 4) (j := 22) true (by decide)]; rw [getD_set_ne (i := 4) (j := 23) true (by decide)]
    · rfl
    · intro w' hA; clear hA; go_simp; try with_reducible rfl
    clear hCl hHeld
    intro hCl hHeld
    simp only [List.setIfInBounds_toArray, List.set_cons_zero, List.set_cons_succ] at hCl hHeld
    try simp only [Act.put]
    try simp only [List.setIfInBounds_toArray, List.set_cons_zero, List.set_cons_succ]
    refine reg_takeG 5 ?_ ?_ ?_ (by kernel_rfl) (by kernel_rfl) (by kernel_rfl) (fun _ _ _ h => h) ?_ ?_ ?_ hCl hHeld ?_
    rotate_left 2
    · simp only [List.getElem?_toArray, List.getElem?_cons_succ, List.getElem?_cons_zero]; exact rfl
    · intro l w'; rw [hSSg, hSSg]; rw [getD_set_ne (i := 5) (j := 22) true (by decide)]; rw [getD_set_ne (i := 5) (j := 23) true (by decide)]
    · rfl
    · intro w' hA; clear hA; go_simp; try with_reducible rfl
    clear hCl hHeld
    intro hCl hHeld
    simp only [List.setIfInBounds_toArray, List.set_cons_zero, List.set_cons_succ] at hCl hHeld
    try simp only [Act.put]
    try simp only [List.setIfInBounds_toArray, List.set_cons_zero, List.set_cons_succ]
    refine reg_takeG 6 ?_ ?_ ?_ (by kernel_rfl) (by kernel_rfl) (by kernel_rfl) (fun _ _ _ h => h) ?_ ?_ ?_ hCl hHeld ?_
    rotate_left 2
    · simp only [List.getElem?_toArray, List.getElem?_cons_succ, List.getElem?_cons_zero]; exact rfl
    · intro l w'; rw [hSSg, hSSg]; rw [getD_set_ne (i := 6) (j := 22) true (by decide)]; rw [getD_set_ne (i := 6) (j := 23) true (by decide)]
    · rfl
    · intro w' hA; obtain ⟨l, hl, hi, hSl⟩ := hA; have hSl := (hSSg _ _).1 hSl; obtain ⟨hy0, hy1⟩ := hSl; obtain ⟨hz0_0, hz0_1⟩ := hy0 (hl.not (t := 22) (by kernel_rfl) hi); obtain ⟨hz1_0, hz1_1⟩ := hy1 (hl.not (t := 23) (by kernel_rfl) hi); go_simp; try with_reducible rfl
    clear hCl hHeld
    intro hCl hHeld
    simp only [List.setIfInBounds_toArray, List.set_cons_zero, List.set_cons_succ] at hCl hHeld
    try simp only [Act.put]
    try simp only [List.setIfInBounds_toArray, List.set_cons_zero, List.set_cons_succ]
    refine reg_takeG 7 ?_ ?_ ?_ (by kernel_rfl) (by kernel_rfl) (by kernel_rfl) (fun _ _ _ h => h) ?_ ?_ ?_ hCl hHeld ?_
    rotate_left 2
    · simp only [List.getElem?_toArray, List.getElem?_cons_succ, List.getElem?_cons_zero]; exact rfl
    · intro l w'; rw [hSSg, hSSg]; rw [getD_set_ne (i := 7) (j := 22) true (by decide)]; rw [getD_set_ne (i := 7) (j := 23) true (by decide)]
    · rfl
    · intro w' hA; clear hA; go_simp; try with_reducible rfl
    clear hCl hHeld
    intro hCl hHeld
    simp only [List.setIfInBounds_toArray, List.set_cons_zero, List.set_cons_succ] at hCl hHeld
    try simp only [Act.put]
    try simp only [List.setIfInBounds_toArray, List.set_cons_zero, List.set_cons_succ]
    refine reg_takeG 8 ?_ ?_ ?_ (by kernel_rfl) (by kernel_rfl) (by kernel_rfl) (fun _ _ _ h => h) ?_ ?_ ?_ hCl hHeld ?_
    rotate_left 2
    · simp only [List.getElem?_toArray, List.getElem?_cons_succ, List.getElem?_cons_zero]; exact rfl
    · intro l w'; rw [hSSg, hSSg]; rw [getD_set_ne (i := 8) (j := 22) true (by decide)]; rw [getD_set_ne (i := 8) (j := 23) true (by decide)]
    · rfl
    · intro w' hA; obtain ⟨l, hl, hi, hSl⟩ := hA; have hSl := (hSSg _ _).1 hSl; obtain ⟨hy0, hy1⟩ := hSl; obtain ⟨hz0_0, hz0_1⟩ := hy0 (hl.not (t := 22) (by kernel_rfl) hi); obtain ⟨hz1_0, hz1_1⟩ := hy1 (hl.not (t := 23) (by kernel_rfl) hi); go_simp; try with_reducible rfl
    clear hCl hHeld
    intro hCl hHeld
    simp only [List.setIfInBounds_toArray, List.set_cons_zero, List.set_cons_succ] at hCl hHeld
    try simp only [Act.put]
    try simp only [List.setIfInBounds_toArray, List.set_cons_zero, List.set_cons_succ]
    refine reg_takeG 9 ?_ ?_ ?_ (by kernel_rfl) (by kernel_rfl) (by kernel_rfl) (fun _ _ _ h => h) ?_ ?_ ?_ hCl hHeld ?_
    rotate_left 2
    · simp only [List.getElem?_toArray, List.getElem?_cons_succ, List.getElem?_cons_zero]; exact rfl
    · intro l w'; rw [hSSg, hSSg]; rw [getD_set_ne (i := 9) (j := 22) true (by decide)]; rw [getD_set_ne (i := 9) (j := 23) true (by decide)]
    · rfl
    · intro w' hA; clear hA; go_simp; try with_reducible rfl
    clear hCl hHeld
    intro hCl hHeld
    simp only [List.setIfInBounds_toArray, List.set_cons_zero, List.set_cons_succ] at hCl hHeld
    try simp only [Act.put]
    try simp only [List.setIfInBounds_toArray, List.set_cons_zero, List.set_cons_succ]
    refine reg_takeG 10 ?_ ?_ ?_ (by kernel_rfl) (by kernel_rfl) (by kernel_rfl) (fun _ _ _ h => h) ?_ ?_ ?_ hCl hHeld ?_
    rotate_left 2
    · simp only [List.getElem?_toArray, List.getElem?_cons_succ, List.getElem?_cons_zero]; exact rfl
    · intro l w'; rw [hSSg, hSSg]; rw [getD_set_ne (i := 10) (j := 22) true (by decide)]; rw [getD_set_ne (i := 10) (j := 23) true (by decide)]
    · rfl
    · intro w' hA; clear hA; go_simp; try with_reducible rfl
    clear hCl hHeld
    intro hCl hHeld
    simp only [List.setIfInBounds_toArray, List.set_cons_zero, List.set_cons_succ] at hCl hHeld
    try simp only [Act.put]
    try simp only [List.setIfInBounds_toArray, List.set_cons_zero, List.set_cons_succ]
    refine reg_takeG 11 ?_ ?_ ?_ (by kernel_rfl) (by kernel_rfl) (by kernel_rfl) (fun _ _ _ h => h) ?_ ?_ ?_ hCl hHeld ?_
    rotate_left 2
    · simp only [List.getElem?_toArray, List.getElem?_cons_succ, List.getElem?_cons_zero]; exact rfl
    · intro l w'; rw [hSSg, hSSg]; rw [getD_set_ne (i := 11) (j := 22) true (by decide)]; rw [getD_set_ne (i := 11) (j := 23) true (by decide)]
    · rfl
    · intro w' hA; clear hA; go_simp; try with_reducible rfl
    clear hCl hHeld
    intro hCl hHeld
    simp only [List.setIfInBounds_toArray, List.set_cons_zero, List.set_cons_succ] at hCl hHeld
    try simp only [Act.put]
    try simp only [List.setIfInBounds_toArray, List.set_cons_zero, List.set_cons_succ]
    refine reg_takeG 12 ?_ ?_ ?_ (by kernel_rfl) (by kernel_rfl) (by kernel_rfl) (fun _ _ _ h => h) ?_ ?_ ?_ hCl hHeld ?_
    rotate_left 2
    · simp only [List.getElem?_toArray, List.getElem?_cons_succ, List.getElem?_cons_zero]; exact rfl
    · intro l w'; rw [hSSg, hSSg]; rw [getD_set_ne (i := 12) (j := 22) true (by decide)]; rw [getD_set_ne (i := 12) (j := 23) true (by decide)]
    · rfl
    · intro w' hA; obtain ⟨l, hl, hi, hSl⟩ := hA; have hSl := (hSSg _ _).1 hSl; obtain ⟨hy0, hy1⟩ := hSl; obtain ⟨hz0_0, hz0_1⟩ := hy0 (hl.not (t := 22) (by kernel_rfl) hi); obtain ⟨hz1_0, hz1_1⟩ := hy1 (hl.not (t := 23) (by kernel_rfl) hi); go_simp; try with_reducible rfl
    clear hCl hHeld
    intro hCl hHeld
    simp only [List.setIfInBounds_toArray, List.set_cons_zero, List.set_cons_succ] at hCl hHeld
    try simp only [Act.put]
    try simp only [List.setIfInBounds_toArray, List.set_cons_zero, List.set_cons_succ]
    refine reg_takeG 13 ?_ ?_ ?_ (by kernel_rfl) (by kernel_rfl) (by kernel_rfl) (fun _ _ _ h => h) ?_ ?_ ?_ hCl hHeld ?_
    rotate_left 2
    · simp only [List.getElem?_toArray, List.getElem?_cons_succ, List.getElem?_cons_zero]; exact rfl
    · intro l w'; rw [hSSg, hSSg]; rw [getD_set_ne (i := 13) (j := 22) true (by decide)]; rw [getD_set_ne (i := 13) (j := 23) true (by decide)]
    · rfl
    · intro w' hA; clear hA; go_simp; try with_reducible rfl
    clear hCl hHeld
    intro hCl hHeld
    simp only [List.setIfInBounds_toArray, List.set_cons_zero, List.set_cons_succ] at hCl hHeld
    try simp only [Act.put]
    try simp only [List.setIfInBounds_toArray, List.set_cons_zero, List.set_cons_succ]
    refine reg_takeG 14 ?_ ?_ ?_ (by kernel_rfl) (by kernel_rfl) (by kernel_rfl) (fun _ _ _ h => h) ?_ ?_ ?_ hCl hHeld ?_
    rotate_left 2
    · simp only [List.getElem?_toArray, List.getElem?_cons_succ, List.getElem?_cons_zero]; exact rfl
    · intro l w'; rw [hSSg, hSSg]; rw [getD_set_ne (i := 14) (j := 22) true (by decide)]; rw [getD_set_ne (i := 14) (j := 23) true (by decide)]
    · rfl
    · intro w' hA; obtain ⟨l, hl, hi, hSl⟩ := hA; have hSl := (hSSg _ _).1 hSl; obtain ⟨-, hy1⟩ := hSl; obtain ⟨hz1_0, hz1_1⟩ := hy1 (hl.not (t := 23) (by kernel_rfl) hi); go_simp; try with_reducible rfl
    clear hCl hHeld
    intro hCl hHeld
    simp only [List.setIfInBounds_toArray, List.set_cons_zero, List.set_cons_succ] at hCl hHeld
    try simp only [Act.put]
    try simp only [List.setIfInBounds_toArray, List.set_cons_zero, List.set_cons_succ]
    refine reg_takeG 15 ?_ ?_ ?_ (by kernel_rfl) (by kernel_rfl) (by kernel_rfl) (fun _ _ _ h => h) ?_ ?_ ?_ hCl hHeld ?_
    rotate_left 2
    · simp only [List.getElem?_toArray, List.getElem?_cons_succ, List.getElem?_cons_zero]; exact rfl
    · intro l w'; rw [hSSg, hSSg]; rw [getD_set_ne (i := 15) (j := 22) true (by decide)]; rw [getD_set_ne (i := 15) (j := 23) true (by decide)]
    · rfl
    · intro w' hA; clear hA; go_simp; try with_reducible rfl
    clear hCl hHeld
    intro hCl hHeld
    simp only [List.setIfInBounds_toArray, List.set_cons_zero, List.set_cons_succ] at hCl hHeld
    try simp only [Act.put]
    try simp only [List.setIfInBounds_toArray, List.set_cons_zero, List.set_cons_succ]
    refine reg_takeG 16 ?_ ?_ ?_ (by kernel_rfl) (by kernel_rfl) (by kernel_rfl) (fun _ _ _ h => h) ?_ ?_ ?_ hCl hHeld ?_
    rotate_left 2
    · simp only [List.getElem?_toArray, List.getElem?_cons_succ, List.getElem?_cons_zero]; exact rfl
    · intro l w'; rw [hSSg, hSSg]; rw [getD_set_ne (i := 16) (j := 22) true (by decide)]; rw [getD_set_ne (i := 16) (j := 23) true (by decide)]
    · rfl
    · intro w' hA; clear hA; go_simp; try with_reducible rfl
    clear hCl hHeld
    intro hCl hHeld
    simp only [List.setIfInBounds_toArray, List.set_cons_zero, List.set_cons_succ] at hCl hHeld
    try simp only [Act.put]
    try simp only [List.setIfInBounds_toArray, List.set_cons_zero, List.set_cons_succ]
    refine reg_takeG 17 ?_ ?_ ?_ (by kernel_rfl) (by kernel_rfl) (by kernel_rfl) (fun _ _ _ h => h) ?_ ?_ ?_ hCl hHeld ?_
    rotate_left 2
    · simp only [List.getElem?_toArray, List.getElem?_cons_succ, List.getElem?_cons_zero]; exact rfl
    · intro l w'; rw [hSSg, hSSg]; rw [getD_set_ne (i := 17) (j := 22) true (by decide)]; rw [getD_set_ne (i := 17) (j := 23) true (by decide)]
    · rfl
    · intro w' hA; obtain ⟨l, hl, hi, hSl⟩ := hA; have hSl := (hSSg _ _).1 hSl; obtain ⟨hy0, hy1⟩ := hSl; obtain ⟨hz0_0, hz0_1⟩ := hy0 (hl.not (t := 22) (by kernel_rfl) hi); obtain ⟨hz1_0, hz1_1⟩ := hy1 (hl.not (t := 23) (by kernel_rfl) hi); go_simp; try with_reducible rfl
    clear hCl hHeld
    intro hCl hHeld
    simp only [List.setIfInBounds_toArray, List.set_cons_zero, List.set_cons_succ] at hCl hHeld
    try simp only [Act.put]
    try simp only [List.setIfInBounds_toArray, List.set_cons_zero, List.set_cons_succ]
    refine reg_takeG 18 ?_ ?_ ?_ (by kernel_rfl) (by kernel_rfl) (by kernel_rfl) (fun _ _ _ h => h) ?_ ?_ ?_ hCl hHeld ?_
    rotate_left 2
    · simp only [List.getElem?_toArray, List.getElem?_cons_succ, List.getElem?_cons_zero]; exact rfl
    · intro l w'; rw [hSSg, hSSg]; rw [getD_set_ne (i := 18) (j := 22) true (by decide)]; rw [getD_set_ne (i := 18) (j := 23) true (by decide)]
    · rfl
    · intro w' hA; clear hA; go_simp; try with_reducible rfl
    clear hCl hHeld
    intro hCl hHeld
    simp only [List.setIfInBounds_toArray, List.set_cons_zero, List.set_cons_succ] at hCl hHeld
    try simp only [Act.put]
    try simp only [List.setIfInBounds_toArray, List.set_cons_zero, List.set_cons_succ]
    refine reg_takeG 19 ?_ ?_ ?_ (by kernel_rfl) (by kernel_rfl) (by kernel_rfl) (fun _ _ _ h => h) ?_ ?_ ?_ hCl hHeld ?_
    rotate_left 2
    · simp only [List.getElem?_toArray, List.getElem?_cons_succ, List.getElem?_cons_zero]; exact rfl
    · intro l w'; rw [hSSg, hSSg]; rw [getD_set_ne (i := 19) (j := 22) true (by decide)]; rw [getD_set_ne (i := 19) (j := 23) true (by decide)]
    · rfl
    · intro w' hA; obtain ⟨l, hl, hi, hSl⟩ := hA; have hSl := (hSSg _ _).1 hSl; obtain ⟨-, hy1⟩ := hSl; obtain ⟨hz1_0, hz1_1⟩ := hy1 (hl.not (t := 23) (by kernel_rfl) hi); go_simp; try with_reducible rfl
    clear hCl hHeld
    intro hCl hHeld
    simp only [List.setIfInBounds_toArray, List.set_cons_zero, List.set_cons_succ] at hCl hHeld
    try simp only [Act.put]
    try simp only [List.setIfInBounds_toArray, List.set_cons_zero, List.set_cons_succ]
    refine reg_takeG 20 ?_ ?_ ?_ (by kernel_rfl) (by kernel_rfl) (by kernel_rfl) (fun _ _ _ h => h) ?_ ?_ ?_ hCl hHeld ?_
    rotate_left 2
    · simp only [List.getElem?_toArray, List.getElem?_cons_succ, List.getElem?_cons_zero]; exact rfl
    · intro l w'; rw [hSSg, hSSg]; rw [getD_set_ne (i := 20) (j := 22) true (by decide)]; rw [getD_set_ne (i := 20) (j := 23) true (by decide)]
    · rfl
    · intro w' hA; clear hA; go_simp; try with_reducible rfl
    clear hCl hHeld
    intro hCl hHeld
    simp only [List.setIfInBounds_toArray, List.set_cons_zero, List.set_cons_succ] at hCl hHeld
    try simp only [Act.put]
    try simp only [List.setIfInBounds_toArray, List.set_cons_zero, List.set_cons_succ]
    refine reg_takeG 21 ?_ ?_ ?_ (by kernel_rfl) (by kernel_rfl) (by kernel_rfl) (fun _ _ _ h => h) ?_ ?_ ?_ hCl hHeld ?_
    rotate_left 2
    · simp only [List.getElem?_toArray, List.getElem?_cons_succ, List.getElem?_cons_zero]; exact rfl
    · intro l w'; rw [hSSg, hSSg]; rw [getD_set_ne (i := 21) (j := 22) true (by decide)]; rw [getD_set_ne (i := 21) (j := 23) true (by decide)]
    · rfl
    · intro w' hA; clear hA; go_simp; try with_reducible rfl
    clear hCl hHeld
    intro hCl hHeld
    simp only [List.setIfInBounds_toArray, List.set_cons_zero, List.set_cons_succ] at hCl hHeld
    try simp only [Act.put]
    try simp only [List.setIfInBounds_toArray, List.set_cons_zero, List.set_cons_succ]
    clear hCl hHeld
    obtain ⟨sf3a, sf3b, sf3c, sf3d⟩ := pa_3.open2
    obtain ⟨sg3a, sg3b⟩ := Box.put2 pa_3 (.int .i64 c0)
    refine reg_callG 22 ?_ (by kernel_rfl) ?_ (fun K hK => ?_)
    rotate_left 1
    · simp only [List.getElem?_toArray, List.getElem?_cons_succ, List.getElem?_cons_zero]; exact rfl
    go_simp
    have hB_4 := below_setAll hB_3 (g := w.heap.size) (by omega) [.int .i64 c0, .int .i64 c1]
    have pb_4 := pb_3.farAll (g' := w.heap.size) (by omega) [.int .i64 c0, .int .i64 c1]
    have pa_4 := pa_3.setAll [.int .i64 c0, .int .i64 c1] rfl
    simp only [setAll, Nat.zero_add] at hB_4 pa_4 pb_4
    clear sf3a sf3b sf3c sf3d sg3a sg3b
    clear hB_3 pb_3 pa_3
    refine hK.out _ _ ((hSSg _ _).2 ⟨(fun h => absurd h (by decide)), (fun _ => ⟨pb_4.c0, pb_4.c1⟩)⟩) ?_
    clear hK K
    try simp only [Act.put]
    try simp only [List.setIfInBounds_toArray, List.set_cons_zero, List.set_cons_succ]
    generalize (World.setCell (World.setCell w7 ⟨w.heap.size, 0, none⟩ (.int .i64 c0)) ⟨w.heap.size, 1, none⟩ (.int .i64 c1)) = w8 at *
    obtain ⟨sf4a, sf4b, sf4c, sf4d⟩ := pb_4.open2
    obtain ⟨sg4a, sg4b⟩ := Box.put2 pb_4 (.int .i64 d0)
    refine reg_callG 23 ?_ (by kernel_rfl) ?_ (fun K hK => ?_)
    rotate_left 1
    · simp only [List.getElem?_toArray, List.getElem?_cons_succ, List.getElem?_cons_zero]; exact rfl
    go_simp
    have hB_5 := below_setAll hB_4 (g := w.heap.size + 1) (by omega) [.int .i64 d0, .int .i64 d1]
    have pa_5 := pa_4.farAll (g' := w.heap.size + 1) (by omega) [.int .i64 d0, .int .i64 d1]
    have pb_5 := pb_4.setAll [.int .i64 d0, .int .i64 d1] rfl
    simp only [setAll, Nat.zero_add] at hB_5 pa_5 pb_5
    clear sf4a sf4b sf4c sf4d sg4a sg4b
    clear hB_4 pa_4 pb_4
    refine hK.out _ _ ((hSSg _ _).2 ⟨(fun h => absurd h (by decide)), (fun h => absurd h (by decide))⟩) ?_
    clear hK K
    try simp only [Act.put]
    try simp only [List.setIfInBounds_toArray, List.set_cons_zero, List.set_cons_succ]
    generalize (World.setCell (World.setCell w8 ⟨w.heap.size + 1, 0, none⟩ (.int .i64 d0)) ⟨w.heap.size + 1, 1, none⟩ (.int .i64 d1)) = w9 at *
    refine wpAnyG_done (by kernel_rfl) ?_ _
    refine NoPanic.normal ?_
    clear hSSg SSg
    clear em0 em1 ex0 ex1
    obtain ⟨pae0, pae1, pae2, pae3⟩ := pa_5.open2
    obtain ⟨pbe0, pbe1, pbe2, pbe3⟩ := pb_5.open2
    go_wp2
    clear pae0 pae1 pae2 pae3 pbe0 pbe1 pbe2 pbe3
    have hWj_0 := Below.refl w9.heap.size w9
    have hsj : w.heap.size ≤ w9.heap.size := hB_5.size
    have hljpa := pa_5.lt
    have hljpb := pb_5.lt
    have hB_6 := hB_5.drew'
    have pa_6 := pa_5.drew
    have pb_6 := pb_5.drew
    have hWj_1 := hWj_0.drew'
    clear hB_5 pa_5 pb_5 hWj_0
    obtain ⟨FFj, hFFj⟩ : ∃ F : World → Prop, ∀ w', F w' ↔ (Below w.heap.size w w' ∧ Box w' (w.heap.size) [.int .i64 c0, .int .i64 c1] ∧ Box w' (w.heap.size + 1) [.int .i64 d0, .int .i64 d1] ∧ Below w9.heap.size w9 w') := ⟨_, fun _ => Iff.rfl⟩
    have cFj : ∀ {w' w'' : World}, FFj w' → Below w'.heap.size w' w'' → FFj w'' := by
      intro w' w'' h hb
      obtain ⟨y0, y1, y2, y3⟩ := (hFFj _).1 h
      exact (hFFj _).2 ⟨y0.trans (hb.mono y0.size), y1.below hb, y2.below hb, y3.trans (hb.mono y3.size)⟩
    have mFj : ∀ {w' : World}, FFj w' → w9.heap.size ≤ w'.heap.size := by
      intro w' h
      obtain ⟨y0, y1, y2, y3⟩ := (hFFj _).1 h
      exact y3.size
    have sFj : ∀ {w' : World}, FFj w' → (w'.cell? ⟨w.heap.size, 0, none⟩ = some (.int .i64 c0) ∧ w'.cell? ⟨w.heap.size, 1, none⟩ = some (.int .i64 c1) ∧ w'.cell? ⟨w.heap.size + 1, 0, none⟩ = some (.int .i64 d0) ∧ w'.cell? ⟨w.heap.size + 1, 1, none⟩ = some (.int .i64 d1)) := by
      intro w' h
      obtain ⟨y0, y1, y2, y3⟩ := (hFFj _).1 h
      exact ⟨y1.c0, y1.c1, y2.c0, y2.c1⟩
    have zF : FFj w9.drew := (hFFj _).2 ⟨hB_6, pa_6, pb_6, hWj_1⟩
    clear hB_6 pa_6 pb_6 hWj_1
    refine wp_region_noPanic ?_
    refine wp_region_held_drew (S := fun w' => w'.cell? ⟨w.heap.size, 0, none⟩ = some (.int .i64 c0) ∧ w'.cell? ⟨w.heap.size, 1, none⟩ = some (.int .i64 c1) ∧ w'.cell? ⟨w.heap.size + 1, 0, none⟩ = some (.int .i64 d0) ∧ w'.cell? ⟨w.heap.size + 1, 1, none⟩ = some (.int .i64 d1)) (by kernel_rfl) (sFj zF) (fun hHeld => ?_)
    refine reg_take 0 ?_ ?_ ?_ (by kernel_rfl) (by kernel_rfl) (by kernel_rfl) (fun _ _ _ h => h) ?_ ?_ (by assumption) ?_
    rotate_left 2
    · simp only [List.getElem?_toArray, List.getElem?_cons_zero]; exact rfl
    · rfl
    · intro w hSw; (try dsimp only at hSw); go_simp; try with_reducible rfl
    try simp only [Act.put]
    try simp only [List.setIfInBounds_toArray, List.set_cons_zero, List.set_cons_succ]
    refine reg_take 1 ?_ ?_ ?_ (by kernel_rfl) (by kernel_rfl) (by kernel_rfl) (fun _ _ _ h => h) ?_ ?_ (by assumption) ?_
    rotate_left 2
    · simp only [List.getElem?_toArray, List.getElem?_cons_succ, List.getElem?_cons_zero]; exact rfl
    · rfl
    · intro w hSw; (try dsimp only at hSw); go_simp; try with_reducible rfl
    try simp only [Act.put]
    try simp only [List.setIfInBounds_toArray, List.set_cons_zero, List.set_cons_succ]
    refine reg_take 2 ?_ ?_ ?_ (by kernel_rfl) (by kernel_rfl) (by kernel_rfl) (fun _ _ _ h => h) ?_ ?_ (by assumption) ?_
    rotate_left 2
    · simp only [List.getElem?_toArray, List.getElem?_cons_succ, List.getElem?_cons_zero]; exact rfl
    · rfl
    · intro w hSw; (try dsimp only at hSw); go_simp; try with_reducible rfl
    try simp only [Act.put]
    try simp only [List.setIfInBounds_toArray, List.set_cons_zero, List.set_cons_succ]
    refine reg_take 3 ?_ ?_ ?_ (by kernel_rfl) (by kernel_rfl) (by kernel_rfl) (fun _ _ _ h => h) ?_ ?_ (by assumption) ?_
    rotate_left 2
    · simp only [List.getElem?_toArray, List.getElem?_cons_succ, List.getElem?_cons_zero]; exact rfl
    · rfl
    · intro w hSw; (try dsimp only at hSw); go_simp; try with_reducible rfl
    try simp only [Act.put]
    try simp only [List.setIfInBounds_toArray, List.set_cons_zero, List.set_cons_succ]
    refine reg_take 4 ?_ ?_ ?_ (by kernel_rfl) (by kernel_rfl) (by kernel_rfl) (fun _ _ _ h => h) ?_ ?_ (by assumption) ?_
    rotate_left 2
    · simp only [List.getElem?_toArray, List.getElem?_cons_succ, List.getElem?_cons_zero]; exact rfl
    · rfl
    · intro w hSw; (try dsimp only at hSw); go_simp; try with_reducible rfl
    try simp only [Act.put]
    try simp only [List.setIfInBounds_toArray, List.set_cons_zero, List.set_cons_succ]
    refine reg_take 5 ?_ ?_ ?_ (by kernel_rfl) (by kernel_rfl) (by kernel_rfl) (fun _ _ _ h => h) ?_ ?_ (by assumption) ?_
    rotate_left 2
    · simp only [List.getElem?_toArray, List.getElem?_cons_succ, List.getElem?_cons_zero]; exact rfl
    · rfl
    · intro w hSw; (try dsimp only at hSw); go_simp; try with_reducible rfl
    try simp only [Act.put]
    try simp only [List.setIfInBounds_toArray, List.set_cons_zero, List.set_cons_succ]
    refine reg_take 6 ?_ ?_ ?_ (by kernel_rfl) (by kernel_rfl) (by kernel_rfl) (fun _ _ _ h => h) ?_ ?_ (by assumption) ?_
    rotate_left 2
    · simp only [List.getElem?_toArray, List.getElem?_cons_succ, List.getElem?_cons_zero]; exact rfl
    · rfl
    · intro w hSw; (try dsimp only at hSw); go_simp; try with_reducible rfl
    try simp only [Act.put]
    try simp only [List.setIfInBounds_toArray, List.set_cons_zero, List.set_cons_succ]
    refine reg_take 7 ?_ ?_ ?_ (by kernel_rfl) (by kernel_rfl) (by kernel_rfl) (fun _ _ _ h => h) ?_ ?_ (by assumption) ?_
    rotate_left 2
    · simp only [List.getElem?_toArray, List.getElem?_cons_succ, List.getElem?_cons_zero]; exact rfl
    · rfl
    · intro w hSw; (try dsimp only at hSw); go_simp; try with_reducible rfl
    try simp only [Act.put]
    try simp only [List.setIfInBounds_toArray, List.set_cons_zero, List.set_cons_succ]
    refine reg_take 8 ?_ ?_ ?_ (by kernel_rfl) (by kernel_rfl) (by kernel_rfl) (fun _ _ _ h => h) ?_ ?_ (by assumption) ?_
    rotate_left 2
    · simp only [List.getElem?_toArray, List.getElem?_cons_succ, List.getElem?_cons_zero]; exact rfl
    · rfl
    · intro w hSw; (try dsimp only at hSw); go_simp; try with_reducible rfl
    try simp only [Act.put]
    try simp only [List.setIfInBounds_toArray, List.set_cons_zero, List.set_cons_succ]
    refine reg_take 9 ?_ ?_ ?_ (by kernel_rfl) (by kernel_rfl) (by kernel_rfl) (fun _ _ _ h => h) ?_ ?_ (by assumption) ?_
    rotate_left 2
    · simp only [List.getElem?_toArray, List.getElem?_cons_succ, List.getElem?_cons_zero]; exact rfl
    · rfl
    · intro w hSw; (try dsimp only at hSw); go_simp; try with_reducible rfl
    try simp only [Act.put]
    try simp only [List.setIfInBounds_toArray, List.set_cons_zero, List.set_cons_succ]
    refine reg_take 10 ?_ ?_ ?_ (by kernel_rfl) (by kernel_rfl) (by kernel_rfl) (fun _ _ _ h => h) ?_ ?_ (by assumption) ?_
    rotate_left 2
    · simp only [List.getElem?_toArray, List.getElem?_cons_succ, List.getElem?_cons_zero]; exact rfl
    · rfl
    · intro w hSw; (try dsimp only at hSw); go_simp; try with_reducible rfl
    try simp only [Act.put]
    try simp only [List.setIfInBounds_toArray, List.set_cons_zero, List.set_cons_succ]
    refine reg_take 11 ?_ ?_ ?_ (by kernel_rfl) (by kernel_rfl) (by kernel_rfl) (fun _ _ _ h => h) ?_ ?_ (by assumption) ?_
    rotate_left 2
    · simp only [List.getElem?_toArray, List.getElem?_cons_succ, List.getElem?_cons_zero]; exact rfl
    · rfl
    · intro w hSw; (try dsimp only at hSw); go_simp; try with_reducible rfl
    try simp only [Act.put]
    try simp only [List.setIfInBounds_toArray, List.set_cons_zero, List.set_cons_succ]
    refine reg_grab (fun WWj aj hWW hAA => ?_)
    rw [hWW]
    have HAj := Lib.hid hAA; clear hWW hAA hHeld
    obtain ⟨IVj, hIVj⟩ : ∃ IV : Array Bool → Act → World → Prop, ∀ l a w', IV l a w' ↔ ∃ (k : Nat) (bb0 bb1 bb2 bb3 : Bool) (p0_ p1_ p2_ p3_ : Value) (gpA gpB gpC gpD : Nat), k ≤ 0 ∧ l = #[true, true, true, true, true, true, true, true, true, true, true, true, bb0, bb1, bb2, bb3, false, false, false, false] ∧ a = ((((aj.put (some 5) p0_).put (some 6) p1_).put (some 7) p2_).put (some 8) p3_) ∧ FFj w' ∧ (bb0 = true → p0_ = .pointer (some ⟨gpA, 0, none⟩) ∧ Box w' gpA [.int .i64 0, .int .i64 0] ∧ w9.heap.size ≤ gpA) ∧ (bb1 = true → p1_ = .pointer (some ⟨gpB, 0, none⟩) ∧ Box w' gpB [.int .i64 0, .int .i64 0] ∧ w9.heap.size ≤ gpB) ∧ (bb2 = true → p2_ = .pointer (some ⟨gpC, 0, none⟩) ∧ Box w' gpC [.int .i64 0, .int .i64 0] ∧ w9.heap.size ≤ gpC) ∧ (bb3 = true → p3_ = .pointer (some ⟨gpD, 0, none⟩) ∧ Box w' gpD [.int .i64 0, .int .i64 0] ∧ w9.heap.size ≤ gpD) ∧ (bb0 = true → bb1 = true → gpA ≠ gpB) ∧ (bb0 = true → bb2 = true → gpA ≠ gpC) ∧ (bb0 = true → bb3 = true → gpA ≠ gpD) ∧ (bb1 = true → bb2 = true → gpB ≠ gpC) ∧ (bb1 = true → bb3 = true → gpB ≠ gpD) ∧ (bb2 = true → bb3 = true → gpC ≠ gpD) := ⟨_, fun _ _ _ => Iff.rfl⟩
    refine wpAnyH_until IVj ?_ _ _ _ _ ((hIVj _ _ _).2 ⟨0, false, false, false, false, (aj.tmps.getD 5 undef), (aj.tmps.getD 6 undef), (aj.tmps.getD 7 undef), (aj.tmps.getD 8 undef), 0, 0, 0, 0, Nat.zero_le _, rfl, (by simp only [put_same]), zF, (fun h => by cases h), (fun h => by cases h), (fun h => by cases h), (fun h => by cases h), (fun h => by cases h), (fun h => by cases h), (fun h => by cases h), (fun h => by cases h), (fun h => by cases h), (fun h => by cases h)⟩) (by kernel_rfl)
    clear zF
    intro ll aa w10 hI
    obtain ⟨k, bb0, bb1, bb2, bb3, p0_, p1_, p2_, p3_, gpA, gpB, gpC, gpD, hk, rfl, rfl, zF, zz0, zz1, zz2, zz3, n0_1, n0_2, n0_3, n1_2, n1_3, n2_3⟩ := (hIVj _ _ _).1 hI
    clear hI
    by_cases hL : k = 0 ∧ bb0 = true ∧ bb1 = true ∧ bb2 = true ∧ bb3 = true
    · left
      obtain ⟨rfl, rfl, rfl, rfl, rfl⟩ := hL
      obtain ⟨rfl, pA_0, hgpA⟩ := zz0 rfl
      obtain ⟨rfl, pB_0, hgpB⟩ := zz1 rfl
      obtain ⟨rfl, pC_0, hgpC⟩ := zz2 rfl
      obtain ⟨rfl, pD_0, hgpD⟩ := zz3 rfl
      have hnpApB := n0_1 rfl rfl
      have hnpApC := n0_2 rfl rfl
      have hnpApD := n0_3 rfl rfl
      have hnpBpC := n1_2 rfl rfl
      have hnpBpD := n1_3 rfl rfl
      have hnpCpD := n2_3 rfl rfl
      clear hk zz0 zz1 zz2 zz3 n0_1 n0_2 n0_3 n1_2 n1_3 n2_3
      show wpAnyH _ _ _ _ _ 4 _ _ _
      rw [HAj.out]
      try simp only [Act.put]
      try simp only [List.setIfInBounds_toArray, List.set_cons_zero, List.set_cons_succ]
      obtain ⟨hB_0, pa_0, pb_0, hWj_0⟩ := (hFFj _).1 zF
      clear zF
      clear hWj_0
      obtain ⟨sf5a, sf5b, sf5c, sf5d⟩ := pA_0.open2
      obtain ⟨sg5a, sg5b⟩ := Box.put2 pA_0 (.int .i64 c0)
      refine reg_call 16 ?_ (by kernel_rfl) ?_ (fun K hK => ?_)
      rotate_left 1
      · simp only [List.getElem?_toArray, List.getElem?_cons_succ, List.getElem?_cons_zero]; exact rfl
      go_simp
      have hB_1 := below_setAll hB_0 (g := gpA) (by omega) [.int .i64 c0, .int .i64 c1]
      have pa_1 := pa_0.farAll (g' := gpA) (by omega) [.int .i64 c0, .int .i64 c1]
      have pb_1 := pb_0.farAll (g' := gpA) (by omega) [.int .i64 c0, .int .i64 c1]
      have pB_1 := pB_0.farAll (g' := gpA) (by omega) [.int .i64 c0, .int .i64 c1]
      have pC_1 := pC_0.farAll (g' := gpA) (by omega) [.int .i64 c0, .int .i64 c1]
      have pD_1 := pD_0.farAll (g' := gpA) (by omega) [.int .i64 c0, .int .i64 c1]
      have pA_1 := pA_0.setAll [.int .i64 c0, .int .i64 c1] rfl
      simp only [setAll, Nat.zero_add] at hB_1 pa_1 pb_1 pA_1 pB_1 pC_1 pD_1
      clear sf5a sf5b sf5c sf5d sg5a sg5b
      clear hB_0 pa_0 pb_0 pB_0 pC_0 pD_0 pA_0
      refine hK.out _ _ ⟨pa_1.c0, pa_1.c1, pb_1.c0, pb_1.c1⟩ (fun hHeld => ?_)
      clear hK K
      try simp only [Act.put]
      try simp only [List.setIfInBounds_toArray, List.set_cons_zero, List.set_cons_succ]
      generalize (World.setCell (World.setCell w10 ⟨gpA, 0, none⟩ (.int .i64 c0)) ⟨gpA, 1, none⟩ (.int .i64 c1)) = w11 at *
      obtain ⟨sf6a, sf6b, sf6c, sf6d⟩ := pB_1.open2
      obtain ⟨sg6a, sg6b⟩ := Box.put2 pB_1 (.int .i64 d0)
      refine reg_call 17 ?_ (by kernel_rfl) ?_ (fun K hK => ?_)
      rotate_left 1
      · simp only [List.getElem?_toArray, List.getElem?_cons_succ, List.getElem?_cons_zero]; exact rfl
      go_simp
      have hB_2 := below_setAll hB_1 (g := gpB) (by omega) [.int .i64 d0, .int .i64 c1]
      have pa_2 := pa_1.farAll (g' := gpB) (by omega) [.int .i64 d0, .int .i64 c1]
      have pb_2 := pb_1.farAll (g' := gpB) (by omega) [.int .i64 d0, .int .i64 c1]
      have pA_2 := pA_1.farAll (g' := gpB) (by omega) [.int .i64 d0, .int .i64 c1]
      have pC_2 := pC_1.farAll (g' := gpB) (by omega) [.int .i64 d0, .int .i64 c1]
      have pD_2 := pD_1.farAll (g' := gpB) (by omega) [.int .i64 d0, .int .i64 c1]
      have pB_2 := pB_1.setAll [.int .i64 d0, .int .i64 c1] rfl
      simp only [setAll, Nat.zero_add] at hB_2 pa_2 pb_2 pA_2 pB_2 pC_2 pD_2
      clear sf6a sf6b sf6c sf6d sg6a sg6b
      clear hB_1 pa_1 pb_1 pA_1 pC_1 pD_1 pB_1
      refine hK.out _ _ ⟨pa_2.c0, pa_2.c1, pb_2.c0, pb_2.c1⟩ (fun hHeld => ?_)
      clear hK K
      try simp only [Act.put]
      try simp only [List.setIfInBounds_toArray, List.set_cons_zero, List.set_cons_succ]
      generalize (World.setCell (World.setCell w11 ⟨gpB, 0, none⟩ (.int .i64 d0)) ⟨gpB, 1, none⟩ (.int .i64 c1)) = w12 at *
      obtain ⟨sf7a, sf7b, sf7c, sf7d⟩ := pC_2.open2
      obtain ⟨sg7a, sg7b⟩ := Box.put2 pC_2 (.int .i64 d0)
      refine reg_call 18 ?_ (by kernel_rfl) ?_ (fun K hK => ?_)
      rotate_left 1
      · simp only [List.getElem?_toArray, List.getElem?_cons_succ, List.getElem?_cons_zero]; exact rfl
      go_simp
      have hB_3 := below_setAll hB_2 (g := gpC) (by omega) [.int .i64 d0, .int .i64 d1]
      have pa_3 := pa_2.farAll (g' := gpC) (by omega) [.int .i64 d0, .int .i64 d1]
      have pb_3 := pb_2.farAll (g' := gpC) (by omega) [.int .i64 d0, .int .i64 d1]
      have pA_3 := pA_2.farAll (g' := gpC) (by omega) [.int .i64 d0, .int .i64 d1]
      have pB_3 := pB_2.farAll (g' := gpC) (by omega) [.int .i64 d0, .int .i64 d1]
      have pD_3 := pD_2.farAll (g' := gpC) (by omega) [.int .i64 d0, .int .i64 d1]
      have pC_3 := pC_2.setAll [.int .i64 d0, .int .i64 d1] rfl
      simp only [setAll, Nat.zero_add] at hB_3 pa_3 pb_3 pA_3 pB_3 pC_3 pD_3
      clear sf7a sf7b sf7c sf7d sg7a sg7b
      clear hB_2 pa_2 pb_2 pA_2 pB_2 pD_2 pC_2
      refine hK.out _ _ ⟨pa_3.c0, pa_3.c1, pb_3.c0, pb_3.c1⟩ (fun hHeld => ?_)
      clear hK K
      try simp only [Act.put]
      try simp only [List.setIfInBounds_toArray, List.set_cons_zero, List.set_cons_succ]
      generalize (World.setCell (World.setCell w12 ⟨gpC, 0, none⟩ (.int .i64 d0)) ⟨gpC, 1, none⟩ (.int .i64 d1)) = w13 at *
      obtain ⟨sf8a, sf8b, sf8c, sf8d⟩ := pD_3.open2
      obtain ⟨sg8a, sg8b⟩ := Box.put2 pD_3 (.int .i64 c0)
      refine reg_call 19 ?_ (by kernel_rfl) ?_ (fun K hK => ?_)
      rotate_left 1
      · simp only [List.getElem?_toArray, List.getElem?_cons_succ, List.getElem?_cons_zero]; exact rfl
      go_simp
      have hB_4 := below_setAll hB_3 (g := gpD) (by omega) [.int .i64 c0, .int .i64 d1]
      have pa_4 := pa_3.farAll (g' := gpD) (by omega) [.int .i64 c0, .int .i64 d1]
      have pb_4 := pb_3.farAll (g' := gpD) (by omega) [.int .i64 c0, .int .i64 d1]
      have pA_4 := pA_3.farAll (g' := gpD) (by omega) [.int .i64 c0, .int .i64 d1]
      have pB_4 := pB_3.farAll (g' := gpD) (by omega) [.int .i64 c0, .int .i64 d1]
      have pC_4 := pC_3.farAll (g' := gpD) (by omega) [.int .i64 c0, .int .i64 d1]
      have pD_4 := pD_3.setAll [.int .i64 c0, .int .i64 d1] rfl
      simp only [setAll, Nat.zero_add] at hB_4 pa_4 pb_4 pA_4 pB_4 pC_4 pD_4
      clear sf8a sf8b sf8c sf8d sg8a sg8b
      clear hB_3 pa_3 pb_3 pA_3 pB_3 pC_3 pD_3
      refine hK.out _ _ ⟨pa_4.c0, pa_4.c1, pb_4.c0, pb_4.c1⟩ (fun hHeld => ?_)
      clear hK K
      try simp only [Act.put]
      try simp only [List.setIfInBounds_toArray, List.set_cons_zero, List.set_cons_succ]
      generalize (World.setCell (World.setCell w13 ⟨gpD, 0, none⟩ (.int .i64 c0)) ⟨gpD, 1, none⟩ (.int .i64 d1)) = w14 at *
      refine wpAnyH_done (by kernel_rfl) ?_ _
      refine NoPanic.normal ?_
      obtain ⟨ol0_0, ol0_1, ol0_2, ol0_3⟩ := pa_4.open2
      obtain ⟨ol1_0, ol1_1, ol1_2, ol1_3⟩ := pb_4.open2
      obtain ⟨ol2_0, ol2_1, ol2_2, ol2_3⟩ := pA_4.open2
      obtain ⟨ol3_0, ol3_1, ol3_2, ol3_3⟩ := pB_4.open2
      obtain ⟨ol4_0, ol4_1, ol4_2, ol4_3⟩ := pC_4.open2
      obtain ⟨ol5_0, ol5_1, ol5_2, ol5_3⟩ := pD_4.open2
      have hl1pa := pa_4.lt
      have hl1pb := pb_4.lt
      have hl1pA := pA_4.lt
      have hl1pB := pB_4.lt
      have hl1pC := pC_4.lt
      have hl1pD := pD_4.lt
      have hl1B := hB_4.size
      obtain ⟨w15, hw15, pM_0, hb15, hs15⟩ := new_box w14 (w14.heap.size) rfl [.int .i64 m0, .int .i64 m1] 23
      have hb15' : Below w14.heap.size w14 w15 := hb15.mono (by omega)
      clear hb15
      have hB_5 := hB_4.trans (hb15'.mono hB_4.size)
      have pa_5 := pa_4.below hb15'
      have pb_5 := pb_4.below hb15'
      have pA_5 := pA_4.below hb15'
      have pB_5 := pB_4.below hb15'
      have pC_5 := pC_4.below hb15'
      have pD_5 := pD_4.below hb15'
      clear hb15' hB_4 pa_4 pb_4 pA_4 pB_4 pC_4 pD_4
      obtain ⟨pae0, pae1, pae2, pae3⟩ := pa_5.open2
      obtain ⟨pbe0, pbe1, pbe2, pbe3⟩ := pb_5.open2
      obtain ⟨pAe0, pAe1, pAe2, pAe3⟩ := pA_5.open2
      obtain ⟨pBe0, pBe1, pBe2, pBe3⟩ := pB_5.open2
      obtain ⟨pCe0, pCe1, pCe2, pCe3⟩ := pC_5.open2
      obtain ⟨pDe0, pDe1, pDe2, pDe3⟩ := pD_5.open2
      obtain ⟨pMe0, pMe1, pMe2, pMe3⟩ := pM_0.open2
      have e1 := E1.out
      have e2 := E2.out
      have e3 := E3.out
      have e4 := E4.out
      have e5 := E5.out
      have e6 := E6.out
      have nm := NM.out
      go_wp2_with fail
      clear nm ol0_0 ol0_1 ol0_2 ol0_3 ol1_0 ol1_1 ol1_2 ol1_3 ol2_0 ol2_1 ol2_2 ol2_3 ol3_0 ol3_1 ol3_2 ol3_3 ol4_0 ol4_1 ol4_2 ol4_3 ol5_0 ol5_1 ol5_2 ol5_3 e1 e2 e3 e4 e5 e6
      clear pa_5 pb_5
      clear pae0 pae1 pae2 pae3 pbe0 pbe1 pbe2 pbe3 pAe0 pAe1 pAe2 pAe3 pBe0 pBe1 pBe2 pBe3 pCe0 pCe1 pCe2 pCe3 pDe0 pDe1 pDe2 pDe3 pMe0 pMe1 pMe2 pMe3
      have e7 := E7.out
      have e8 := E8.out
      have e9 := E9.out
      have e10 := E10.out
      have hB_6 := hB_5.drew'
      have pA_6 := pA_5.drew
      have pB_6 := pB_5.drew
      have pC_6 := pC_5.drew
      have pD_6 := pD_5.drew
      have pM_1 := pM_0.drew
      clear hB_5 pA_5 pB_5 pC_5 pD_5 pM_0
      go_region_held3 (fun w' => w'.cell? ⟨gpA, 0, none⟩ = some (.int .i64 c0) ∧ w'.cell? ⟨gpA, 1, none⟩ = some (.int .i64 c1) ∧ w'.cell? ⟨gpB, 0, none⟩ = some (.int .i64 d0) ∧ w'.cell? ⟨gpB, 1, none⟩ = some (.int .i64 c1) ∧ w'.cell? ⟨gpC, 0, none⟩ = some (.int .i64 d0) ∧ w'.cell? ⟨gpC, 1, none⟩ = some (.int .i64 d1) ∧ w'.cell? ⟨gpD, 0, none⟩ = some (.int .i64 c0) ∧ w'.cell? ⟨gpD, 1, none⟩ = some (.int .i64 d1) ∧ w'.cell? ⟨w14.heap.size, 0, none⟩ = some (.int .i64 m0) ∧ w'.cell? ⟨w14.heap.size, 1, none⟩ = some (.int .i64 m1))
        (first | with_reducible exact ⟨pA_6.c0, pA_6.c1, pB_6.c0, pB_6.c1, pC_6.c0, pC_6.c1, pD_6.c0, pD_6.c1, pM_1.c0, pM_1.c1⟩ | with_reducible exact ⟨pA_7.c0, pA_7.c1, pB_7.c0, pB_7.c1, pC_7.c0, pC_7.c1, pD_7.c0, pD_7.c1, pM_2.c0, pM_2.c1⟩ | with_reducible exact ⟨pA_8.c0, pA_8.c1, pB_8.c0, pB_8.c1, pC_8.c0, pC_8.c1, pD_8.c0, pD_8.c1, pM_3.c0, pM_3.c1⟩ | with_reducible exact ⟨pA_9.c0, pA_9.c1, pB_9.c0, pB_9.c1, pC_9.c0, pC_9.c1, pD_9.c0, pD_9.c1, pM_4.c0, pM_4.c1⟩ | with_reducible exact ⟨pA_10.c0, pA_10.c1, pB_10.c0, pB_10.c1, pC_10.c0, pC_10.c1, pD_10.c0, pD_10.c1, pM_5.c0, pM_5.c1⟩ | fail)
        (first
          | (go_at_call 17; (with_reducible refine (K1.out _).mono ?_); rintro e w16 ⟨rfl, hb16⟩; have hB_7 := hB_6.trans (hb16.mono hB_6.size); have pA_7 := pA_6.below hb16; have pB_7 := pB_6.below hb16; have pC_7 := pC_6.below hb16; have pD_7 := pD_6.below hb16; have pM_2 := pM_1.below hb16; clear hb16 hB_6 pA_6 pB_6 pC_6 pD_6 pM_1)
          | (go_at_call 17; (with_reducible refine (K2.out _).mono ?_); rintro e w17 ⟨rfl, hb17⟩; have hB_8 := hB_7.trans (hb17.mono hB_7.size); have pA_8 := pA_7.below hb17; have pB_8 := pB_7.below hb17; have pC_8 := pC_7.below hb17; have pD_8 := pD_7.below hb17; have pM_3 := pM_2.below hb17; clear hb17 hB_7 pA_7 pB_7 pC_7 pD_7 pM_2)
          | (go_at_call 17; (with_reducible refine (K3.out _).mono ?_); rintro e w18 ⟨rfl, hb18⟩; have hB_9 := hB_8.trans (hb18.mono hB_8.size); have pA_9 := pA_8.below hb18; have pB_9 := pB_8.below hb18; have pC_9 := pC_8.below hb18; have pD_9 := pD_8.below hb18; have pM_4 := pM_3.below hb18; clear hb18 hB_8 pA_8 pB_8 pC_8 pD_8 pM_3)
          | (go_at_call 17; (with_reducible refine (K4.out _).mono ?_); rintro e w19 ⟨rfl, hb19⟩; have hB_10 := hB_9.trans (hb19.mono hB_9.size); have pA_10 := pA_9.below hb19; have pB_10 := pB_9.below hb19; have pC_10 := pC_9.below hb19; have pD_10 := pD_9.below hb19; have pM_5 := pM_4.below hb19; clear hb19 hB_9 pA_9 pB_9 pC_9 pD_9 pM_4))
      go_wp2
      all_goals go_ret
      all_goals exact ⟨rfl, hB_10⟩
    · right
      refine ⟨?_, fun i hi => ?_⟩
      · clear zF zz0 zz1 zz2 zz3 n0_1 n0_2 n0_3 n1_2 n1_3 n2_3
        obtain rfl : k = 0 := by omega
        all_goals cases bb0
        all_goals cases bb1
        all_goals cases bb2
        all_goals cases bb3
        all_goals first | exact absurd ⟨rfl, rfl, rfl, rfl, rfl⟩ hL | exact of_decide_eq_true (by kernel_rfl)
      have hd : (bb0 = false ∧ i = 12) ∨ (bb1 = false ∧ i = 13) ∨ (bb2 = false ∧ i = 14) ∨ (bb3 = false ∧ i = 15) := by
        clear zF zz0 zz1 zz2 zz3 n0_1 n0_2 n0_3 n1_2 n1_3 n2_3
        revert i
        obtain rfl : k = 0 := by omega
        all_goals cases bb0
        all_goals cases bb1
        all_goals cases bb2
        all_goals cases bb3
        all_goals first | exact absurd ⟨rfl, rfl, rfl, rfl, rfl⟩ hL | exact of_decide_eq_true (by kernel_rfl)
      clear hi hL
      rcases hd with ⟨rfl, rfl⟩ | ⟨rfl, rfl⟩ | ⟨rfl, rfl⟩ | ⟨rfl, rfl⟩
      · refine step_of 12 ?_ ?_ (fun K hK => ?_)
        rotate_left 1
        · simp only [List.getElem?_toArray, List.getElem?_cons_succ, List.getElem?_cons_zero]; exact rfl
        rw [HAj.out]
        try simp only [Act.put]
        try simp only [List.setIfInBounds_toArray, List.set_cons_zero, List.set_cons_succ]
        go_simp
        have hgn := mFj zF
        have hl1 : bb1 = true → gpB < w10.heap.size := fun h => (zz1 h).2.1.lt
        have hl2 : bb2 = true → gpC < w10.heap.size := fun h => (zz2 h).2.1.lt
        have hl3 : bb3 = true → gpD < w10.heap.size := fun h => (zz3 h).2.1.lt
        obtain ⟨wn, hwn, pA_0, hb, -⟩ := new_box w10 _ rfl [.int .i64 0, .int .i64 0] 23
        rw [hwn]
        refine hK.out _ _ (sFj (cFj zF hb)) ?_
        exact (hIVj _ _ _).2 ⟨k, true, bb1, bb2, bb3, (.pointer (some ⟨w10.heap.size, 0, none⟩)), p1_, p2_, p3_, w10.heap.size, gpB, gpC, gpD, hk, rfl, (by simp only [HAj.out, Act.put, List.setIfInBounds_toArray, List.set_cons_zero, List.set_cons_succ]), (cFj zF hb), (fun _ => ⟨rfl, pA_0, hgn⟩), (fun h => ⟨(zz1 h).1, (zz1 h).2.1.below hb, (zz1 h).2.2⟩), (fun h => ⟨(zz2 h).1, (zz2 h).2.1.below hb, (zz2 h).2.2⟩), (fun h => ⟨(zz3 h).1, (zz3 h).2.1.below hb, (zz3 h).2.2⟩), (fun _ h => by have := hl1 h; omega), (fun _ h => by have := hl2 h; omega), (fun _ h => by have := hl3 h; omega), n1_2, n1_3, n2_3⟩
      · refine step_of 13 ?_ ?_ (fun K hK => ?_)
        rotate_left 1
        · simp only [List.getElem?_toArray, List.getElem?_cons_succ, List.getElem?_cons_zero]; exact rfl
        rw [HAj.out]
        try simp only [Act.put]
        try simp only [List.setIfInBounds_toArray, List.set_cons_zero, List.set_cons_succ]
        go_simp
        have hgn := mFj zF
        have hl0 : bb0 = true → gpA < w10.heap.size := fun h => (zz0 h).2.1.lt
        have hl2 : bb2 = true → gpC < w10.heap.size := fun h => (zz2 h).2.1.lt
        have hl3 : bb3 = true → gpD < w10.heap.size := fun h => (zz3 h).2.1.lt
        obtain ⟨wn, hwn, pB_0, hb, -⟩ := new_box w10 _ rfl [.int .i64 0, .int .i64 0] 23
        rw [hwn]
        refine hK.out _ _ (sFj (cFj zF hb)) ?_
        exact (hIVj _ _ _).2 ⟨k, bb0, true, bb2, bb3, p0_, (.pointer (some ⟨w10.heap.size, 0, none⟩)), p2_, p3_, gpA, w10.heap.size, gpC, gpD, hk, rfl, (by simp only [HAj.out, Act.put, List.setIfInBounds_toArray, List.set_cons_zero, List.set_cons_succ]), (cFj zF hb), (fun h => ⟨(zz0 h).1, (zz0 h).2.1.below hb, (zz0 h).2.2⟩), (fun _ => ⟨rfl, pB_0, hgn⟩), (fun h => ⟨(zz2 h).1, (zz2 h).2.1.below hb, (zz2 h).2.2⟩), (fun h => ⟨(zz3 h).1, (zz3 h).2.1.below hb, (zz3 h).2.2⟩), (fun h _ => by have := hl0 h; omega), n0_2, n0_3, (fun _ h => by have := hl2 h; omega), (fun _ h => by have := hl3 h; omega), n2_3⟩
      · refine step_of 14 ?_ ?_ (fun K hK => ?_)
        rotate_left 1
        · simp only [List.getElem?_toArray, List.getElem?_cons_succ, List.getElem?_cons_zero]; exact rfl
        rw [HAj.out]
        try simp only [Act.put]
        try simp only [List.setIfInBounds_toArray, List.set_cons_zero, List.set_cons_succ]
        go_simp
        have hgn := mFj zF
        have hl0 : bb0 = true → gpA < w10.heap.size := fun h => (zz0 h).2.1.lt
        have hl1 : bb1 = true → gpB < w10.heap.size := fun h => (zz1 h).2.1.lt
        have hl3 : bb3 = true → gpD < w10.heap.size := fun h => (zz3 h).2.1.lt
        obtain ⟨wn, hwn, pC_0, hb, -⟩ := new_box w10 _ rfl [.int .i64 0, .int .i64 0] 23
        rw [hwn]
        refine hK.out _ _ (sFj (cFj zF hb)) ?_
        exact (hIVj _ _ _).2 ⟨k, bb0, bb1, true, bb3, p0_, p1_, (.pointer (some ⟨w10.heap.size, 0, none⟩)), p3_, gpA, gpB, w10.heap.size, gpD, hk, rfl, (by simp only [HAj.out, Act.put, List.setIfInBounds_toArray, List.set_cons_zero, List.set_cons_succ]), (cFj zF hb), (fun h => ⟨(zz0 h).1, (zz0 h).2.1.below hb, (zz0 h).2.2⟩), (fun h => ⟨(zz1 h).1, (zz1 h).2.1.below hb, (zz1 h).2.2⟩), (fun _ => ⟨rfl, pC_0, hgn⟩), (fun h => ⟨(zz3 h).1, (zz3 h).2.1.below hb, (zz3 h).2.2⟩), n0_1, (fun h _ => by have := hl0 h; omega), n0_3, (fun h _ => by have := hl1 h; omega), n1_3, (fun _ h => by have := hl3 h; omega)⟩
      · refine step_of 15 ?_ ?_ (fun K hK => ?_)
        rotate_left 1
        · simp only [List.getElem?_toArray, List.getElem?_cons_succ, List.getElem?_cons_zero]; exact rfl
        rw [HAj.out]
        try simp only [Act.put]
        try simp only [List.setIfInBounds_toArray, List.set_cons_zero, List.set_cons_succ]
        go_simp
        have hgn := mFj zF
        have hl0 : bb0 = true → gpA < w10.heap.size := fun h => (zz0 h).2.1.lt
        have hl1 : bb1 = true → gpB < w10.heap.size := fun h => (zz1 h).2.1.lt
        have hl2 : bb2 = true → gpC < w10.heap.size := fun h => (zz2 h).2.1.lt
        obtain ⟨wn, hwn, pD_0, hb, -⟩ := new_box w10 _ rfl [.int .i64 0, .int .i64 0] 23
        rw [hwn]
        refine hK.out _ _ (sFj (cFj zF hb)) ?_
        exact (hIVj _ _ _).2 ⟨k, bb0, bb1, bb2, true, p0_, p1_, p2_, (.pointer (some ⟨w10.heap.size, 0, none⟩)), gpA, gpB, gpC, w10.heap.size, hk, rfl, (by simp only [HAj.out, Act.put, List.setIfInBounds_toArray, List.set_cons_zero, List.set_cons_succ]), (cFj zF hb), (fun h => ⟨(zz0 h).1, (zz0 h).2.1.below hb, (zz0 h).2.2⟩), (fun h => ⟨(zz1 h).1, (zz1 h).2.1.below hb, (zz1 h).2.2⟩), (fun h => ⟨(zz2 h).1, (zz2 h).2.1.below hb, (zz2 h).2.2⟩), (fun _ => ⟨rfl, pD_0, hgn⟩), n0_1, n0_2, (fun h _ => by have := hl0 h; omega), n1_2, (fun h _ => by have := hl1 h; omega), (fun h _ => by have := hl2 h; omega)⟩
  · right
    refine ⟨?_, fun i hi => ?_⟩
    · clear zF rr1 rr2 zz0 zz1
      obtain rfl | rfl | rfl : k = 0 ∨ k = 1 ∨ k = 2 := by omega
      all_goals cases bb0
      all_goals cases bb1
      all_goals first | exact absurd ⟨rfl, rfl, rfl⟩ hL | exact absurd (dp0_0 (by decide)) (by decide) | exact absurd (dp1_1 (by decide)) (by decide) | exact of_decide_eq_true (by kernel_rfl)
    have hd : (k = 0 ∧ bb0 = true ∧ i = 1) ∨ (k = 1 ∧ bb1 = true ∧ i = 3) ∨ (bb0 = false ∧ i = 0) ∨ (bb1 = false ∧ i = 2) := by
      clear zF rr1 rr2 zz0 zz1
      revert i
      obtain rfl | rfl | rfl : k = 0 ∨ k = 1 ∨ k = 2 := by omega
      all_goals cases bb0
      all_goals cases bb1
      all_goals first | exact absurd ⟨rfl, rfl, rfl⟩ hL | exact absurd (dp0_0 (by decide)) (by decide) | exact absurd (dp1_1 (by decide)) (by decide) | exact of_decide_eq_true (by kernel_rfl)
    clear hi hL
    rcases hd with ⟨rfl, rfl, rfl⟩ | ⟨rfl, rfl, rfl⟩ | ⟨rfl, rfl⟩ | ⟨rfl, rfl⟩
    · obtain rfl := zz0 rfl
      refine step_of 1 ?_ ?_ (fun K hK => ?_)
      rotate_left 1
      · simp only [List.getElem?_toArray, List.getElem?_cons_succ, List.getElem?_cons_zero]; exact rfl
      rw [HAi.out]
      try simp only [Act.put]
      try simp only [List.setIfInBounds_toArray, List.set_cons_zero, List.set_cons_succ]
      go_simp
      refine (TM0.out _).mono ?_
      rintro e w20 ⟨rfl, hb⟩
      go_wp2_with fail
      refine hK.out _ _ (sFi (cFi zF hb)) ?_
      exact (hIVi _ _ _).2 ⟨1, true, bb1, (.agg #[.int .i64 a0, .int .i64 a1]), v1_, _, p1_, (by omega), rfl, (by simp only [HAi.out, Act.put, List.setIfInBounds_toArray, List.set_cons_zero, List.set_cons_succ]), (cFi zF hb), (fun _ => rfl), (fun h => absurd h (by omega)), (fun _ => rfl), zz1, (fun _ => rfl), (fun h => absurd h (by omega))⟩
    · obtain rfl := rr1 (by omega)
      obtain rfl := dp0_0 (by omega)
      obtain rfl := zz0 rfl
      obtain rfl := zz1 rfl
      refine step_of 3 ?_ ?_ (fun K hK => ?_)
      rotate_left 1
      · simp only [List.getElem?_toArray, List.getElem?_cons_succ, List.getElem?_cons_zero]; exact rfl
      rw [HAi.out]
      try simp only [Act.put]
      try simp only [List.setIfInBounds_toArray, List.set_cons_zero, List.set_cons_succ]
      go_simp
      refine (TM1.out _).mono ?_
      rintro e w21 ⟨rfl, hb⟩
      go_wp2_with fail
      refine hK.out _ _ (sFi (cFi zF hb)) ?_
      exact (hIVi _ _ _).2 ⟨2, true, true, _, (.agg #[.int .i64 b0, .int .i64 b1]), _, _, (by omega), rfl, (by simp only [HAi.out, Act.put, List.setIfInBounds_toArray, List.set_cons_zero, List.set_cons_succ]), (cFi zF hb), (fun _ => rfl), (fun _ => rfl), (fun _ => rfl), (fun _ => rfl), (fun _ => rfl), (fun _ => rfl)⟩
    · obtain ⟨-, pa_0, -, -⟩ := (hFFi _).1 zF
      obtain ⟨pae0, pae1, pae2, pae3⟩ := pa_0.open2
      refine step_of 0 ?_ ?_ (fun K hK => ?_)
      rotate_left 1
      · simp only [List.getElem?_toArray, List.getElem?_cons_zero]; exact rfl
      rw [HAi.out]
      try simp only [Act.put]
      try simp only [List.setIfInBounds_toArray, List.set_cons_zero, List.set_cons_succ]
      go_simp
      refine hK.out _ _ (sFi zF) ?_
      exact (hIVi _ _ _).2 ⟨k, true, bb1, v0_, v1_, (.agg #[.int .i64 x0, .int .i64 x1]), p1_, hk, rfl, (by simp only [HAi.out, Act.put, List.setIfInBounds_toArray, List.set_cons_zero, List.set_cons_succ]), zF, rr1, rr2, (fun _ => rfl), zz1, (fun _ => rfl), dp1_1⟩
    · obtain ⟨-, -, pb_0, -⟩ := (hFFi _).1 zF
      obtain ⟨pbe0, pbe1, pbe2, pbe3⟩ := pb_0.open2
      refine step_of 2 ?_ ?_ (fun K hK => ?_)
      rotate_left 1
      · simp only [List.getElem?_toArray, List.getElem?_cons_succ, List.getElem?_cons_zero]; exact rfl
      rw [HAi.out]
      try simp only [Act.put]
      try simp only [List.setIfInBounds_toArray, List.set_cons_zero, List.set_cons_succ]
      go_simp
      refine hK.out _ _ (sFi zF) ?_
      exact (hIVi _ _ _).2 ⟨k, bb0, true, v0_, v1_, p0_, (.agg #[.int .i64 y0, .int .i64 y1]), hk, rfl, (by simp only [HAi.out, Act.put, List.setIfInBounds_toArray, List.set_cons_zero, List.set_cons_succ]), zF, rr1, rr2, zz0, (fun _ => rfl), dp0_0, (fun _ => rfl)⟩
end Go.Proofs.Ytjciefoademlnaa
/- The statement PredSquares: from its walks to all inputs. -/
namespace Go.Proofs.Ytjciefoademlnaa
open Go.RowKit Go.MagM
theorem inc_rect2 (px py qx qy : Int) : inc qx py qx qy px qy px py = 0 := by unfold inc; grind
theorem rect_sign {x y z : Int} (hx : 0 < x) (hy : 0 < y) : (x * y * z).sign = z.sign := by
  have h := Int.mul_pos hx hy
  generalize x * y = p at *
  rw [Int.sign_mul, Int.sign_eq_one_of_pos h, Int.one_mul]
theorem wrap_in {x : Int} (h : -9223372036854775808 ≤ x) (h' : x < 9223372036854775808) : IntKind.i64.wrap x = x := by rw [IntKind.wrap_i64]; omega
set_option maxHeartbeats 4000000 in
theorem PredSquares_tame (x0 x1 y0 y1 a0 a1 b0 b1 : Int) (c0 c1 d0 d1 : Int) (hc0 : InP c0) (hc1 : InP c1) (hd0 : InP d0) (hd1 : InP d1) (em0 : (if b0 < a0 then b0 else a0) = c0) (em1 : (if b1 < a1 then b1 else a1) = c1) (ex0 : (if a0 < b0 then b0 else a0) = d0) (ex1 : (if a1 < b1 then b1 else a1) = d1) (l0 : c0 ≤ d0) (l1 : c1 ≤ d1)
    (kx : ∀ w, Calls Try.prog 10 #[.agg #[.int .i64 x0, .int .i64 x1]] w fun e w' => e = .returned (.agg #[.int .i64 a0, .int .i64 a1]) ∧ Below w.heap.size w w') (ky : ∀ w, Calls Try.prog 10 #[.agg #[.int .i64 y0, .int .i64 y1]] w fun e w' => e = .returned (.agg #[.int .i64 b0, .int .i64 b1]) ∧ Below w.heap.size w w') (w : World) :
    Calls Try.prog 5 #[.agg #[.int .i64 x0, .int .i64 x1], .agg #[.int .i64 y0, .int .i64 y1]] w fun e w' => e = .returned (.bool true) ∧ Below w.heap.size w w' := by
  by_cases n0 : c0 = d0
  · subst n0
    exact PredSquares_w_ex x0 x1 y0 y1 a0 a1 b0 b1 c0 c1 d1 kx ky em0 em1 ex0 ex1 w
  · have nx : decide (c0 = d0) = false := decide_eq_false n0
    have nx' : (c0 == d0) = false := beq_eq_false_iff_ne.2 n0
    by_cases n1 : c1 = d1
    · subst n1
      exact PredSquares_w_ey x0 x1 y0 y1 a0 a1 b0 b1 c0 c1 d0 kx ky em0 em1 ex0 ex1 nx nx' w
    · have ny : decide (c1 = d1) = false := decide_eq_false n1
      have ny' : (c1 == d1) = false := beq_eq_false_iff_ne.2 n1
      have p0 : 0 < d0 - c0 := by omega
      have p1 : 0 < d1 - c1 := by omega
      have bc0 : -2147483648 ≤ c0 ∧ c0 ≤ 2147483648 := hc0
      have bc1 : -2147483648 ≤ c1 ∧ c1 ≤ 2147483648 := hc1
      have bd0 : -2147483648 ≤ d0 ∧ d0 ≤ 2147483648 := hd0
      have bd1 : -2147483648 ≤ d1 ∧ d1 ≤ 2147483648 := hd1
      obtain ⟨h0, eh0, q0⟩ : ∃ h, (d0 - c0).tdiv 2 = h ∧ (0 ≤ h ∧ 2 * h ≤ d0 - c0) := ⟨_, rfl, by rw [Int.tdiv_eq_ediv_of_nonneg (by omega)]; omega⟩
      obtain ⟨h1, eh1, q1⟩ : ∃ h, (d1 - c1).tdiv 2 = h ∧ (0 ≤ h ∧ 2 * h ≤ d1 - c1) := ⟨_, rfl, by rw [Int.tdiv_eq_ediv_of_nonneg (by omega)]; omega⟩
      obtain ⟨m0, eM0⟩ : ∃ m, c0 + h0 = m := ⟨_, rfl⟩
      obtain ⟨m1, eM1⟩ : ∃ m, c1 + h1 = m := ⟨_, rfl⟩
      have hm0 : InP m0 := by unfold InP; omega
      have hm1 : InP m1 := by unfold InP; omega
      obtain ⟨k, ek, q2⟩ : ∃ k : Int, (if c0 + 2147483648 < 1 then c0 + 2147483648 else 1) = k ∧ ((k = 0 ∧ c0 = -2147483648) ∨ (k = 1 ∧ -2147483648 < c0)) := ⟨_, rfl, by split <;> omega⟩
      obtain ⟨f0, eF⟩ : ∃ f, c0 - k = f := ⟨_, rfl⟩
      have hf0 : InP f0 := by unfold InP; omega
      have i1 : (inc c0 c1 d0 c1 d0 d1 c0 d1).sign = 0 := by rw [inc_rect]; simp
      have i2 : (inc d0 c1 d0 d1 c0 d1 c0 c1).sign = 0 := by rw [inc_rect2]; rfl
      have i4 : (inc c0 c1 d0 c1 d0 d1 f0 d1).sign = -k := by
        rw [inc_rect, rect_sign p0 p1, ← eF]
        rcases q2 with ⟨rfl, _⟩ | ⟨rfl, _⟩
        · simp
        · rw [Int.sub_self, Int.mul_zero, Int.add_zero]
          have : (c0 - 1 - c0) * (d0 - (c0 - 1)) = -(d0 - (c0 - 1)) := by rw [show c0 - 1 - c0 = -1 by omega]; omega
          rw [this, Int.sign_eq_neg_one_of_neg (by omega)]
      have v1 : IntKind.i64.wrap (d0 - c0) = d0 - c0 := wrap_in (by omega) (by omega)
      have v2 : IntKind.i64.wrap (d1 - c1) = d1 - c1 := wrap_in (by omega) (by omega)
      have v3 : IntKind.i64.wrap ((d0 - c0).tdiv 2) = h0 := by rw [eh0]; exact wrap_in (by omega) (by omega)
      have v4 : IntKind.i64.wrap ((d1 - c1).tdiv 2) = h1 := by rw [eh1]; exact wrap_in (by omega) (by omega)
      have v5 : IntKind.i64.wrap (c0 + h0) = m0 := by rw [eM0]; exact wrap_in (by omega) (by omega)
      have v6 : IntKind.i64.wrap (c1 + h1) = m1 := by rw [eM1]; exact wrap_in (by omega) (by omega)
      have v7 : IntKind.i64.wrap (c0 + 2147483648) = c0 + 2147483648 := wrap_in (by omega) (by omega)
      have v9 : IntKind.i64.wrap (c0 - k) = f0 := by rw [eF]; exact wrap_in (by omega) (by omega)
      have v10 : IntKind.i64.wrap (-k) = -k := wrap_in (by omega) (by omega)
      clear eh0 eh1
      by_cases hm : m0 = c0 ∧ m1 = c1
      · exact PredSquares_w_at x0 x1 y0 y1 a0 a1 b0 b1 c0 c1 d0 d1 _ _ h0 h1 m0 m1 _ k f0 _ kx ky (fun w => Circle_is c0 c1 d0 c1 d0 d1 c0 d1 hc0 hc1 hd0 hc1 hd0 hd1 hc0 hd1 i1 w) (fun w => Circle_is d0 c1 d0 d1 c0 d1 c0 c1 hd0 hc1 hd0 hd1 hc0 hd1 hc0 hc1 i2 w) (fun w => Circle_is c0 c1 d0 c1 d0 d1 f0 d1 hc0 hc1 hd0 hc1 hd0 hd1 hf0 hd1 i4 w) em0 em1 ex0 ex1 nx nx' ny ny' v1 v2 v3 v4 v5 v6 v7 ek v9 v10
          (fun w => by rw [if_pos hm.1, if_pos hm.2]) w
      · have i3 : (inc c0 c1 d0 c1 d0 d1 m0 m1).sign = 1 := by
          rw [inc_rect, rect_sign p0 p1]
          refine Int.sign_eq_one_of_pos ?_
          have z0 := Int.mul_nonneg (show 0 ≤ m0 - c0 by omega) (show 0 ≤ d0 - m0 by omega)
          have z1 := Int.mul_nonneg (show 0 ≤ m1 - c1 by omega) (show 0 ≤ d1 - m1 by omega)
          by_cases g0 : m0 = c0
          · have := Int.mul_pos (show 0 < m1 - c1 by omega) (show 0 < d1 - m1 by omega)
            omega
          · have := Int.mul_pos (show 0 < m0 - c0 by omega) (show 0 < d0 - m0 by omega)
            omega
        exact PredSquares_w_in x0 x1 y0 y1 a0 a1 b0 b1 c0 c1 d0 d1 _ _ h0 h1 m0 m1 _ k f0 _ kx ky (fun w => Circle_is c0 c1 d0 c1 d0 d1 c0 d1 hc0 hc1 hd0 hc1 hd0 hd1 hc0 hd1 i1 w) (fun w => Circle_is d0 c1 d0 d1 c0 d1 c0 c1 hd0 hc1 hd0 hd1 hc0 hd1 hc0 hc1 i2 w) (fun w => Circle_is c0 c1 d0 c1 d0 d1 f0 d1 hc0 hc1 hd0 hc1 hd0 hd1 hf0 hd1 i4 w) (fun w => Circle_is c0 c1 d0 c1 d0 d1 m0 m1 hc0 hc1 hd0 hc1 hd0 hd1 hm0 hm1 i3 w) em0 em1 ex0 ex1 nx nx' ny ny' v1 v2 v3 v4 v5 v6 v7 ek v9 v10
          (fun w => ne_pt hm) w
theorem PredSquares_walk (x0 x1 y0 y1 : Int) (w : World) : Calls Try.prog 5 #[.agg #[.int .i64 x0, .int .i64 x1], .agg #[.int .i64 y0, .int .i64 y1]] w fun e w' => e = .returned (.bool true) ∧ Below w.heap.size w w' := by
  have i0 := tame_in x0
  have i1 := tame_in x1
  have j0 := tame_in y0
  have j1 := tame_in y1
  have kx := fun w => Tame_any x0 x1 w
  have ky := fun w => Tame_any y0 y1 w
  generalize tame x0 = a0 at *
  generalize tame x1 = a1 at *
  generalize tame y0 = b0 at *
  generalize tame y1 = b1 at *
  exact PredSquares_tame x0 x1 y0 y1 a0 a1 b0 b1 _ _ _ _ (by split <;> assumption) (by split <;> assumption) (by split <;> assumption) (by split <;> assumption) rfl rfl rfl rfl (by split <;> split <;> omega) (by split <;> split <;> omega) kx ky w
end Go.Proofs.Ytjciefoademlnaa
