/- deci: digitsOf: a magnitude's decimal digits. -/
import Derived.Test.YtbeohedkeklaiaaGreatDoorPartp
import Derived.Test.YtbeohedkeklaiaaGreatDoorParto
import Derived.Lib.AppendStr
import Derived.Deep.LoopGhost
import Derived.Test.YtbeohedkeklaiaaGreatDoorDeciA
import Derived.Test.YtbeohedkeklaiaaGreatDoorDeciK
import Derived.Test.YtbeohedkeklaiaaGreatDoorParti
namespace Go.Proofs.YtbeohedkeklaiaaGreatDoor
open Go.RowKit Go.Shelf Go.MagS Go.MagM
attribute [local go_sem] Oper.semAt_some
theorem dec_block {q r k : Nat} (hq : q ≠ 0) (hr : r < 10 ^ k) (hk : 0 < k) : Lib.decDigits (q * 10 ^ k + r) = Lib.decDigits q ++ padK k (Lib.decDigits r) := by
  have hl : (padK k (Lib.decDigits r)).length = k := by rw [padK_len]; have := dec_len hr hk; omega
  have hv : dval 0 (Lib.decDigits q ++ padK k (Lib.decDigits r)) = q * 10 ^ k + r := by
    rw [dval_append, dec_val, dval_split, hl, padK_val, dec_val]
  rw [← hv]
  obtain ⟨c, l, e, hc⟩ := dec_head hq
  exact dec_of (by rw [List.all_append, dec_dig, padK_dig (dec_dig r)]; rfl) ⟨c, l ++ padK k (Lib.decDigits r), by rw [e]; rfl, .inl hc⟩
/-- The block's base. -/
def ten19 : Nat := 10000000000000000000
theorem ten19_eq : ten19 = 10 ^ 19 := rfl
theorem word_any (va : Value) (L X : Nat) (w : World) (ha : Mag w va L X) (hX : X < ten19) : Calls Tryz.prog 76 #[va] w fun e w' => e = .returned (.int .u64 (X : Int)) ∧ w = w' := by
  obtain ⟨ao, n, c, f, rfl, hnc, hnL, hr, hV⟩ := ha
  cases n with
  | zero =>
    have h0 : X = 0 := hV.symm
    subst h0
    clear hr hV
    go_enter Tryz.func76, Tryz.ntmps76
    go_wp2
    go_ret
    exact ⟨rfl, rfl⟩
  | succ k =>
    obtain ⟨b, o, rfl, hc, hB⟩ := hr 0 (by omega)
    have hx : X = f 0 := by
      have h := V_split f 1 k
      rw [Nat.add_comm 1 k, hV, V_one, Nat.pow_one] at h
      rcases Nat.eq_zero_or_pos (V (fun i => f (1 + i)) k) with e | e
      · rw [e] at h; simpa using h
      · have := Nat.le_mul_of_pos_right B e
        unfold ten19 at hX; unfold B at *; omega
    rw [← hx] at hc
    rw [Nat.add_zero] at hc
    clear hr hV hB hx
    go_enter Tryz.func76, Tryz.ntmps76
    go_wp2
    go_ret
    exact ⟨rfl, rfl⟩
theorem padded_any (l : List UInt8) (n : Nat) (w : World) (hl : l.length ≤ 3000000) (hn : n ≤ 100) : Calls Tryz.prog 45 #[.string (str l), .int .i64 n] w fun e w' => e = .returned (.string (str (padK n l))) ∧ Below w.heap.size w w' := by
  have hz : (str l).size = l.length := str_size l
  have hzz := fun w => zeros_any ((n : Int) - (l.length : Int)) w (by omega)
  have hk : ((n : Int) - (l.length : Int)).toNat = n - l.length := by omega
  simp only [hk] at hzz
  have hs2 : (str (List.replicate (n - l.length) (48 : UInt8))).size = n - l.length := by rw [str_size, List.length_replicate]
  have hs3 : ¬ (9223372036854775807 < n - l.length + l.length) := by omega
  have happ : str (List.replicate (n - l.length) 48) ++ str l = str (padK n l) := str_append _ _
  clear hk
  go_enter Tryz.func45, Tryz.ntmps45
  go_wp2_with (go_at_call 74; refine (hzz _).mono ?_; rintro e w1 ⟨rfl, hb⟩)
  go_ret
  exact ⟨rfl, hb⟩
/-- The blocks that have been gathered, as cells. -/
def blks (g : Nat → Blk) (k : Nat) : List Value := (List.range k).map fun i => .int .u64 ((g i).1 : Int)
theorem blks_succ (g : Nat → Blk) (k : Nat) : blks g (k + 1) = blks g k ++ [.int .u64 ((g k).1 : Int)] := by simp [blks, List.range_succ]
theorem blks_congr {g g' : Nat → Blk} {k : Nat} (h : ∀ i, i < k → g i = g' i) : blks g k = blks g' k := by
  unfold blks; apply List.map_congr_left; intro i hi; rw [h i (by simpa using hi)]
theorem blks_at (g : Nat → Blk) (k i : Nat) (h : i < k) : (blks g k)[i]? = some (.int .u64 ((g i).1 : Int)) := by simp [blks, List.getElem?_map, List.getElem?_range h]
/-- Their digits, the last block ahead. -/
def tailD (g : Nat → Blk) : Nat → List UInt8
  | 0 => []
  | k + 1 => padK 19 (Lib.decDigits (g k).1) ++ tailD g k
theorem tailD_congr {g g' : Nat → Blk} {k : Nat} (h : ∀ i, i < k → g i = g' i) : tailD g k = tailD g' k := by
  induction k with
  | zero => rfl
  | succ k ih => rw [tailD, tailD, h k (by omega), ih (fun i hi => h i (by omega))]
def updB (g : Nat → Blk) (k : Nat) (x : Blk) : Nat → Blk := fun i => if i = k then x else g i
theorem updB_same (g : Nat → Blk) (k : Nat) (x : Blk) : updB g k x k = x := if_pos rfl
theorem updB_other (g : Nat → Blk) (k : Nat) (x : Blk) {i : Nat} (h : i ≠ k) : updB g k x i = g i := if_neg h
theorem owns_below {w w' : World} {base : Nat} {e : TypeId} {size : Nat} {v : Value} {n : Nat} {xs : List Value} (h : w.ownsRow base e size v n xs) (hb : Below w.heap.size w w') : w'.ownsRow base e size v n xs := by
  refine ⟨h.1, ?_⟩
  rcases h.2 with hn | ⟨g, cap, cur, hv, hg, hc, r⟩
  · exact .inl hn
  · exact .inr ⟨g, cap, cur, hv, hg, by rw [hb.block g (Array.getElem?_eq_some_iff.1 hc).1]; exact hc, r⟩
/-- Where the loop stands: what is left counts k, and j blocks have been taken off. -/
def DigRel (w1 : World) (L X : Nat) (k : Nat) (mv bv : Value) (wr : World) : Prop :=
  ∃ (g : Nat → Blk) (j : Nat), Mag wr mv L k ∧ wr.ownsRow w1.heap.size 49 1 bv j (blks g j) ∧ Below w1.heap.size w1 wr ∧ Lib.decDigits X = Lib.decDigits k ++ tailD g j ∧ k * 2 ^ (63 * j) ≤ X ∧ j ≤ 2 * L + 1
theorem dig_step {X k j L : Nat} {g : Nat → Blk} (hX : X < B ^ L) (hk : ten19 ≤ k) (h1 : Lib.decDigits X = Lib.decDigits k ++ tailD g j) (h2 : k * 2 ^ (63 * j) ≤ X) (hr : k % ten19 < 10000000000000000000) :
    Lib.decDigits X = Lib.decDigits (k / ten19) ++ tailD (updB g j ⟨k % ten19, hr⟩) (j + 1) ∧ k / ten19 * 2 ^ (63 * (j + 1)) ≤ X ∧ j ≤ 2 * L := by
  have hpos : k / ten19 ≠ 0 := by
    have : 0 < k / ten19 := Nat.div_pos hk (by unfold ten19; omega)
    omega
  have hdm := Nat.div_add_mod k ten19
  refine ⟨?_, ?_, ?_⟩
  · rw [h1, tailD, updB_same, tailD_congr (g := updB g j ⟨k % ten19, hr⟩) (g' := g) (fun i hi => updB_other g j _ (by omega)), ← List.append_assoc]
    congr 1
    have := dec_block (k := 19) hpos (r := k % ten19) (by rw [← ten19_eq]; exact Nat.mod_lt _ (by unfold ten19; omega)) (by omega)
    rw [← this, ← ten19_eq, Nat.mul_comm, hdm]
  · have e : 63 * (j + 1) = 63 + 63 * j := by omega
    rw [e, Nat.pow_add, ← Nat.mul_assoc]
    refine Nat.le_trans (Nat.mul_le_mul_right _ ?_) h2
    have h3 : k / ten19 * 2 ^ 63 ≤ k / ten19 * ten19 := Nat.mul_le_mul_left _ (by unfold ten19; decide)
    have h4 : ten19 * (k / ten19) = k / ten19 * ten19 := Nat.mul_comm _ _
    omega
  · rcases Nat.lt_or_ge (2 * L) j with h | h
    · exfalso
      have h5 : 2 ^ (63 * j) ≤ k * 2 ^ (63 * j) := Nat.le_mul_of_pos_left _ (by unfold ten19 at hk; omega)
      have h6 : B ^ L ≤ 2 ^ (63 * j) := by
        have : B ^ L = 2 ^ (64 * L) := by rw [show B = 2 ^ 64 from rfl, ← Nat.pow_mul]
        rw [this]
        exact Nat.pow_le_pow_right (by omega) (by omega)
      omega
    · exact h
theorem mag_grown {w w' : World} {row : Option Nat} {g k c L N : Nat} (h : Mag w (.slice (some ⟨g, 0, none⟩) k c) L N) (hg : w.grownBy w' row) (hne : row ≠ some g) : Mag w' (.slice (some ⟨g, 0, none⟩) k c) L N := by
  obtain ⟨ao, n, c', f, e, h2, h3, h4, h5⟩ := h
  simp at e; obtain ⟨rfl, rfl, rfl⟩ := e
  refine ⟨_, _, _, f, rfl, h2, h3, fun i hi => ?_, h5⟩
  obtain ⟨b, o, e, hc, hl⟩ := h4 i hi
  simp at e; obtain ⟨rfl, rfl⟩ := e
  have hb := hg.block g (World.block_lt_of_cell? w _ hc) (fun h => hne h.symm)
  exact ⟨g, 0, rfl, by rw [World.cell?_of_block (a := ⟨g, 0 + i, none⟩) hb]; exact hc, hl⟩
/-- The blocks as they are read. -/
theorem blks_read {w : World} {base j : Nat} {v : Value} {g : Nat → Blk} (h : w.ownsRow base 49 1 v j (blks g j)) : ∃ ao c, v = .slice ao j c ∧ ∀ i, i < j → ∃ b o, ao = some ⟨b, o, none⟩ ∧ b < w.heap.size ∧ w.cell? ⟨b, o + i, none⟩ = some (.int .u64 ((g i).1 : Int)) := by
  have h0 := h
  rcases h.2 with ⟨rfl, rfl⟩ | ⟨b, cap, cur, rfl, _, hc, _⟩
  · exact ⟨none, 0, rfl, fun i hi => by omega⟩
  · refine ⟨_, cap, rfl, fun i hi => ⟨b, 0, rfl, (Array.getElem?_eq_some_iff.1 hc).1, ?_⟩⟩
    have := h0.cellAt i (by omega)
    rw [blks_at g j i hi] at this
    rw [Nat.zero_add]; exact this
/-- What has been laid when these blocks have come. -/
def laidD (k : Nat) (pre : List (Nat × Blk)) : List UInt8 := Lib.decDigits k ++ pre.flatMap (fun x => padK 19 (Lib.decDigits x.2.1))
theorem laidD_snoc (k : Nat) (pre : List (Nat × Blk)) (x : Nat × Blk) : laidD k (pre ++ [x]) = laidD k pre ++ padK 19 (Lib.decDigits x.2.1) := by simp [laidD]
theorem laidD_pos (k : Nat) (pre : List (Nat × Blk)) : ∃ m, (laidD k pre).length = m + 1 := by
  refine ⟨(laidD k pre).length - 1, ?_⟩
  have := dec_pos k
  have : 0 < (laidD k pre).length := by unfold laidD; rw [List.length_append]; omega
  omega
theorem blk_len (x : Blk) : (padK 19 (Lib.decDigits x.1)).length = 19 := by
  rw [padK_len]; have := dec_len (n := x.1) (k := 19) x.2 (by omega); omega
theorem laidD_len {k : Nat} (hk : k < ten19) (pre : List (Nat × Blk)) : (laidD k pre).length ≤ 19 + 19 * pre.length := by
  have h1 := dec_len (n := k) (k := 19) hk (by omega)
  have h2 : ∀ pre : List (Nat × Blk), (pre.flatMap (fun x => padK 19 (Lib.decDigits x.2.1))).length = 19 * pre.length := by
    intro pre
    induction pre with
    | nil => rfl
    | cons x r ih => rw [List.flatMap_cons, List.length_append, blk_len, ih, List.length_cons]; omega
  unfold laidD; rw [List.length_append, h2]; omega
theorem laidD_all (k m : Nat) (g : Nat → Blk) : laidD k (backs m g m) = Lib.decDigits k ++ tailD g m := by
  unfold laidD
  congr 1
  have h : ∀ q, q ≤ m → (backs m g q).flatMap (fun x => padK 19 (Lib.decDigits x.2.1)) ++ tailD g (m - q) = tailD g m := by
    intro q hq
    induction q with
    | zero => simp [backs]
    | succ q ih =>
      rw [backs_succ, List.flatMap_append, List.append_assoc, ← ih (by omega), show m - q = (m - (q + 1)) + 1 by omega, tailD, show m - 1 - q = m - (q + 1) by omega]
      simp
  have := h m (Nat.le_refl _)
  rw [Nat.sub_self, tailD, List.append_nil] at this
  exact this
theorem boxed_kept (B : Nat) (t : TypeId) (v : Value) {β : Type} : Own (fun (_ : β) W => Boxed W B t v) := fun s X Y row hs hg hr => hs.kept hg (fun e => by
  obtain ⟨o, ho, hc⟩ := hr B e.symm
  rw [show X.heap[B]? = _ from hs] at ho; cases ho; cases hc)
theorem info8 : (Tryz.prog.info? 5).map (fun i => (i.zero, i.size, i.bytes)) = some (some (.int .u8 0), 1, 1) := by kernel_rfl
theorem cells_str (l : List UInt8) : Lib.strCells (str l) = Lib.byteCells l := rfl
/-- A text's bytes behind a row that is owned. -/
theorem append_text {w : World} {base n : Nat} {v : Value} {l m : List UInt8} (hown : w.ownsRow base 5 1 v n (Lib.byteCells l)) (hn : n ≤ 100000000000) (hm : m.length ≤ 1000000) (hpos : 0 < m.length) (hb : base ≤ w.heap.size) :
    ∃ g c w', (Builtin.append_ #[75, 9] 75 #[v, .string (str m)]).run Tryz.prog w = .ok (.slice (some ⟨g, 0, none⟩) (n + m.length) c) w' ∧ w'.ownsRow base 5 1 (.slice (some ⟨g, 0, none⟩) (n + m.length) c) (n + m.length) (Lib.byteCells (l ++ m)) ∧ w.grownBy w' v.ownBlock := by
  obtain ⟨i0, hi, hz0, hz1, hz2⟩ := info_parts info8
  have hz : (str m).size = m.length := str_size m
  obtain ⟨v', w', h1, h2, h3, h4⟩ := Lib.run_append_own_string (P := Tryz.prog) w base 75 9 75 5 i0 Tryz.underlying75 Tryz.underlying9 hi hz0 hz1 hz2 v n (Lib.byteCells l) hown (str m) (by rw [hz]; unfold maxLen; omega) (by rw [hz]; omega) hb
  rw [hz, cells_str] at h2
  obtain ⟨q, hq⟩ : ∃ q, n + m.length = q + 1 := ⟨n + m.length - 1, by omega⟩
  rw [hq] at h2
  obtain ⟨g, c, rfl⟩ := ownsRow_succ h2
  refine ⟨g, c, w', by rw [hq]; exact h1, ?_, h3⟩
  rw [hq]
  have : Lib.byteCells l ++ Lib.byteCells m = Lib.byteCells (l ++ m) := by simp [Lib.byteCells]
  rw [← this]; exact h2
/-- What a round leaves. -/
theorem round_end {W w6 w7 : World} {n2 B7 Bs n g c k0 : Nat} {v sv : Value} {l m : List UInt8} (hb : Below W.heap.size W w6) (hv : Boxed W B7 75 v) (hN : Boxed W Bs 29 sv) (hne : Bs ≠ B7) (hn2 : n2 ≤ W.heap.size) (hn7 : n2 ≤ B7)
    (hrow : W.ownsRow n2 5 1 v n (Lib.byteCells l)) (hown : w7.ownsRow n2 5 1 (.slice (some ⟨g, 0, none⟩) k0 c) k0 (Lib.byteCells (l ++ m))) (hg : w6.grownBy w7 v.ownBlock) :
    KeepsOthers W (w7.setCell ⟨B7, 0, none⟩ (.slice (some ⟨g, 0, none⟩) k0 c)) ∧ (∀ b, (b = Bs ∨ b < n2) → (w7.setCell ⟨B7, 0, none⟩ (.slice (some ⟨g, 0, none⟩) k0 c)).heap[b]? = W.heap[b]?) ∧
      Boxed (w7.setCell ⟨B7, 0, none⟩ (.slice (some ⟨g, 0, none⟩) k0 c)) B7 75 (.slice (some ⟨g, 0, none⟩) k0 c) ∧ (w7.setCell ⟨B7, 0, none⟩ (.slice (some ⟨g, 0, none⟩) k0 c)).ownsRow n2 5 1 (.slice (some ⟨g, 0, none⟩) k0 c) k0 (Lib.byteCells (l ++ m)) ∧
      Boxed (w7.setCell ⟨B7, 0, none⟩ (.slice (some ⟨g, 0, none⟩) k0 c)) Bs 29 sv ∧ Below n2 W (w7.setCell ⟨B7, 0, none⟩ (.slice (some ⟨g, 0, none⟩) k0 c)) := by
  have hrow6 := owns_below hrow hb
  have hv6 : Boxed w6 B7 75 v := (hb.block B7 hv.lt).trans hv
  have hN6 : Boxed w6 Bs 29 sv := (hb.block Bs hN.lt).trans hN
  have hv7 : Boxed w7 B7 75 v := hv6.kept hg (hv6.not_row (by decide) hrow6)
  have hN7 : Boxed w7 Bs 29 sv := hN6.kept hg (hN6.not_row (by decide) hrow6)
  have hN8 := hN7.kept (grownBy_setCell' w7 B7 (.slice (some ⟨g, 0, none⟩) k0 c)) (by simpa using hne)
  have hbel : Below n2 W (w7.setCell ⟨B7, 0, none⟩ (.slice (some ⟨g, 0, none⟩) k0 c)) := ((hb.mono hn2).grown hg (by have := hb.size; omega) (fun k e => (hrow6.lt k e).1)).setCell (p := ⟨B7, 0, none⟩) hn7 _
  refine ⟨?_, ?_, hv7.set _, hown.kept (grownBy_setCell' w7 B7 _) (.inr (hv7.not_row (by decide) hown).symm), hN8, hbel⟩
  · refine ((⟨hb.size, fun k o hk _ => (hb.block k (Array.getElem?_eq_some_iff.1 hk).1).trans hk⟩ : KeepsOthers W w6).trans (KeepsOthers.of_grownBy hg fun j o ej hj => ?_)).trans (KeepsOthers.setCell _ _ _)
    rcases hrow6.2 with ⟨rfl, _⟩ | ⟨g', cap, cur, rfl, _, hgb, _⟩
    · simp [Value.ownBlock] at ej
    · obtain rfl : g' = j := by simpa [Value.ownBlock] using ej
      rw [hgb] at hj; cases hj; rfl
  · intro b h
    rcases h with rfl | h
    · exact hN8.trans hN.symm
    · exact hbel.block b h
theorem infoW : (Tryz.prog.info? 49).map (fun i => (i.zero, i.size, i.bytes)) = some (some (.int .u64 0), 1, 8) := by kernel_rfl
set_option maxRecDepth 100000 in
set_option maxHeartbeats 8000000 in
theorem digitsOf_any (va : Value) (L X : Nat) (w : World) (hL : L ≤ 100000) (ha : Mag w va L X) (ht : Tens w) :
    Calls Tryz.prog 46 #[va] w fun e w' => e = .returned (.string (str (Lib.decDigits X))) ∧ Below w.heap.size w w' := by
  have hXL := ha.lt
  obtain ⟨i0, hi, hz0, hz1, hz2⟩ := info_parts infoW
  have HI := Lib.hid hi; have HZ0 := Lib.hid hz0; have HZ1 := Lib.hid hz1; have HZ2 := Lib.hid hz2
  clear hi hz0 hz1 hz2
  have HA := Lib.hid ha; have HXL := Lib.hid hXL
  obtain ⟨ao, n, c, rfl⟩ := ha.slice
  clear ha hXL
  refine (callsIn_wide (n := 20)).1 (callsIn_of_wp_marks (F := Fence.wide) (n := 20) Tryz.func46 rfl trivial ?_ rfl)
  simp only [Tryz.ntmps46, List.size_toArray, List.length_cons, List.length_nil, Nat.reduceAdd, Nat.reduceSub, Array.replicate_succ, Array.replicate_zero, List.push_toArray, List.append_toArray, List.nil_append, List.cons_append]
  rw [wpIn_wide]
  go_wp2_with (go_at_call 49; refine (mOf_any ten19 _ (by unfold ten19 B; omega)).mono ?_; rintro e w1 ⟨bo, bn, bc, rfl, hb_, hB1⟩)
  have HB_ := Lib.hid hb_; have HX1 := Lib.hid (HA.out.below hB1); have HB1 := Lib.hid hB1
  clear hb_ hB1 HA
  go_loopg [0, 4] X (fun k mv bv wr => DigRel w1 L X k mv bv wr)
  case atStart => exact ⟨fun _ => ⟨0, by omega⟩, 0, HX1.out, World.ownsRow_nil _ _ _ _, Below.refl _ _, by simp [tailD], by simp, by omega⟩
  case round =>
    obtain ⟨g, j, hm, hown, hbe, hd, hp, hj9⟩ := hrel
    obtain ⟨mo, mn, mc, rfl⟩ := hm.slice
    have HM := Lib.hid hm; have HOWN := Lib.hid hown; have HBE := Lib.hid hbe; have HD := Lib.hid hd; have HP := Lib.hid hp
    clear hm hown hbe hd hp
    by_cases hk : ten19 ≤ gk
    · obtain ⟨cc, hcc⟩ : ∃ cc, cmpn gk ten19 = cc := ⟨_, rfl⟩
      have hc0 : 0 ≤ cc := by rw [← hcc]; unfold cmpn; repeat' split <;> omega
      have hr19 : gk % ten19 < 10000000000000000000 := Nat.mod_lt _ (by unfold ten19; omega)
      have hst := dig_step HXL.out hk HD.out HP.out hr19
      obtain ⟨s1, s2, s3⟩ := hst
      have S1 := Lib.hid s1; have S2 := Lib.hid s2
      have HCC := Lib.hid hcc
      clear s1 s2 hcc
      go_wp2_with (first
        | (go_at_call 54; go_loud (refine (mCmp_is _ _ L 1 gk ten19 cc _ (by omega) (by omega) HM.out (HB_.out.mag.below HBE.out) HCC.out).mono ?_; rintro e w2 ⟨rfl, hb2⟩; have HM2 := Lib.hid (HM.out.below hb2); have HBE2 := Lib.hid (HBE.out.trans (hb2.mono HBE.out.size)); have HOWN2 := Lib.hid (owns_below HOWN.out hb2); clear HM HBE HOWN hb2))
        | (go_at_call 75; refine (Div_new _ _ L 1 gk ten19 _ (by omega) (by omega) HM2.out (HB_.out.mag.below HBE2.out) hk (by unfold ten19; omega) (by unfold ten19 B; omega)).mono ?_; rintro e w3 ⟨gq, kq, cq, vr, rfl, hgq, hq, hr, hb3⟩; have HQ := Lib.hid hq; have HGQ := Lib.hid (fun kk hkk => Nat.ne_of_lt (Nat.lt_of_lt_of_le (HOWN2.out.lt kk hkk).2 hgq)); clear hgq; have HR := Lib.hid hr; have HBE3 := Lib.hid (HBE2.out.trans (hb3.mono HBE2.out.size)); have HOWN3 := Lib.hid (owns_below HOWN2.out hb3); clear HM2 HBE2 HOWN2 hb3 hq hr)
        | (go_at_call 76; refine (word_any _ L (gk % ten19) _ HR.out.mag (by exact hr19)).mono ?_; rintro e w4 ⟨rfl, rfl⟩)
        | (at_builtin; go_loud (refine wpList_append_own _ rfl (.tmp 22) (.tmp 25) 29 rfl w1.heap.size 49 i0 (.int .u64 0) 1 8 Tryz.underlying29 HI.out HZ0.out HZ1.out HZ2.out rfl (by decide) _ j (blks g j) rfl (HOWN3.out.alloc _) ⟨w3.heap.size, 0, none⟩ 1 1 [.int .u64 ((gk % ten19 : Nat) : Int)] rfl rfl (by intro j u hj; match j, hj with | 0, hj => (simp at hj; subst hj; simp [Addr.add, go_sem])) (by intro u hu; simp at hu; subst hu; rfl) (by unfold maxLen; omega) (by omega) (by have := HBE3.out.size; simp; omega) ?_; intro v1 w5 hown1 hgrow1 _; have HOWN5 := Lib.hid hown1; clear hown1)))
      have hbel : Below w1.heap.size w1 w5 := (HBE3.out.alloc HBE3.out.size _).grown hgrow1 (by have := HBE3.out.size; simp; omega) (fun kk hkk => (HOWN3.out.lt kk hkk).1)
      have hmq : Mag w5 (.slice (some ⟨gq, 0, none⟩) kq cq) L (gk / ten19) := mag_grown (HQ.out.mag.below ((Below.refl _ _).alloc (Nat.le_refl _) _)) hgrow1 (fun h => HGQ.out gq h rfl)
      go_roundg (gk / ten19)
      case measure => exact Nat.div_lt_self (by unfold ten19 at hk; omega) (by unfold ten19; omega)
      case rel =>
        refine ⟨updB g j ⟨gk % ten19, hr19⟩, j + 1, hmq, ?_, hbel, S1.out, S2.out, by omega⟩
        have := HOWN5.out
        rw [blks_congr (g := g) (g' := updB g j ⟨gk % ten19, hr19⟩) (fun i hi => (updB_other g j _ (show i ≠ j by omega)).symm), show Value.int .u64 ((gk % ten19 : Nat) : Int) = .int .u64 ((updB g j ⟨gk % ten19, hr19⟩ j).1 : Int) by rw [updB_same], ← blks_succ] at this
        exact this
    · obtain ⟨cc, hcc⟩ : ∃ cc, cmpn gk ten19 = cc := ⟨_, rfl⟩
      have hc0 : ¬ 0 ≤ cc := by rw [← hcc]; unfold cmpn; rw [if_pos (by omega)]; omega
      have hgk : gk < ten19 := by omega
      have HCC := Lib.hid hcc
      obtain ⟨bso, bsc, rfl, hbs⟩ := blks_read HOWN.out
      have HBS := Lib.hid hbs
      clear hcc hbs
      go_wp2_with (first
        | (go_at_call 54; refine (mCmp_is _ _ L 1 gk ten19 cc _ (by omega) (by omega) HM.out (HB_.out.mag.below HBE.out) HCC.out).mono ?_; rintro e w2 ⟨rfl, hb2⟩; have HM2 := Lib.hid (HM.out.below hb2); have HBE2 := Lib.hid (HBE.out.trans (hb2.mono HBE.out.size)); have HB2 := Lib.hid hb2; have HT2 := Lib.hid ((ht.below HB1.out).below ((HBE.out.trans (hb2.mono HBE.out.size)))); clear HM hb2)
        | (go_at_call 76; refine (word_any _ L gk _ HM2.out hgk).mono ?_; rintro e w4 ⟨rfl, rfl⟩)
        | (go_at_call 77; refine (append_any _ gk _ (by unfold ten19 at hgk; omega) HT2.out (Nat.le_refl _)).mono ?_; rintro e w3 ⟨vo, rfl, hout, hb3⟩; obtain ⟨dl, hdl⟩ : ∃ dl, (Lib.decDigits gk).length = dl + 1 := ⟨_, (Nat.succ_pred_eq_of_pos (dec_pos gk)).symm⟩; obtain ⟨go, gc, rfl⟩ := ownsRow_succ (hdl ▸ hout); have HOUT := Lib.hid hout; have HB3 := Lib.hid hb3; have HDL := Lib.hid hdl; clear hout hb3 hdl)
        | (go_at_call 78; refine ((callsIn_wide (n := 1)).1 (backward_in Fence.wide 1 trivial rfl _ _ _ _)).mono ?_; rintro e w5 ⟨rfl, rfl⟩))
      have HBB := Lib.hid (HBE2.out.trans (HB3.out.mono HBE2.out.size))
      have b7 := Boxed.new w3 75 (.slice (some ⟨go, 0, none⟩) (dl + 1) gc)
      have bN := Boxed.new (w3.alloc (.cells #[.slice (some ⟨go, 0, none⟩) (dl + 1) gc] 75)) 29 (.slice bso j bsc)
      rw [World.size_alloc] at bN
      have b7' := b7.alloc (.cells #[.slice bso j bsc] 29)
      have hn3 : w2.heap.size ≤ w3.heap.size := HB3.out.size
      have hB0 : Below w2.heap.size w2 ((w3.alloc (.cells #[.slice (some ⟨go, 0, none⟩) (dl + 1) gc] 75)).alloc (.cells #[.slice bso j bsc] 29)) := (HB3.out.alloc hn3 _).alloc (by simp; omega) _
      rw [← wpIn_wide (n := 20)]
      refine wpIn_rangeFunc_ownG rfl (by omega) (gf := 108) (lb := #[.pointer (some ⟨w3.heap.size + 1, 0, none⟩)]) rfl trivial (enters_of Tryz.func108 (by kernel_rfl) rfl)
        (back_stops Fence.wide 19 trivial rfl (by omega) (w3.heap.size + 1) (fun b => b = w3.heap.size + 1 ∨ (b < w2.heap.size)) bso j bsc g (by omega) _ (.inl rfl) (by intro b hb; simp; rcases hb with h | h <;> omega) bN.cell (fun i hi => ?_)) ?_ ?_ (Below.refl _ _) (fun _ => rfl)
        (fun pre W => ((∃ v, Boxed W w3.heap.size 75 v ∧ W.ownsRow w2.heap.size 5 1 v (laidD gk pre).length (Lib.byteCells (laidD gk pre)) ∧ True) ∧ Boxed W (w3.heap.size + 1) 29 (.slice bso j bsc)) ∧ Below w2.heap.size w2 W)
        (fun _ _ _ => False) ?_ (fun _ _ _ _ _ hs _ _ => hs) ?_
        (fun x => { tmps := #[.slice mo mn mc, undef, .string ⟨#[]⟩, .slice bo bn bc, .slice bso j bsc, u5, u6, .pointer (some ⟨w3.heap.size, 0, none⟩), undef, .int .u64 (x.2.1 : Int), .slice bo bn bc, .slice mo mn mc, .slice bo bn bc, .int .i64 cc, .bool (decide (0 ≤ cc)), u15, u16, u17, u18, u19, u20, u21, u22, u23, u24, u25, u26, .slice mo mn mc, .int .u64 (gk : Int), .slice (some ⟨go, 0, none⟩) (dl + 1) gc, .slice bso j bsc, .func (.func 108) #[] #[.pointer (some ⟨w3.heap.size + 1, 0, none⟩)], .int .i64 (x.1 : Int), .int .u64 (x.2.1 : Int), undef, undef, undef, undef, undef, undef, undef], defers := [] }) ?assign ?body ?done ?stop
      · obtain ⟨b, o, h1, h2, h3⟩ := HBS.out i hi
        have hbw : b < w2.heap.size := Nat.lt_of_lt_of_le h2 HB2.out.size
        refine ⟨b, o, h1, .inr hbw, ?_⟩
        have h4 : w2.cell? ⟨b, o + i, none⟩ = some (.int .u64 ((g i).1 : Int)) := (HB2.out.cell (p := ⟨b, o + i, none⟩) h2).trans h3
        exact (hB0.cell (p := ⟨b, o + i, none⟩) hbw).trans h4
      · intro A B C h k; exact h.trans k
      · intro W l o o' hl h _ _ b hb
        have : b ≠ l := by simp at hl; rcases hb with e | e <;> omega
        exact World.putObj_heap_other (fun e => this e)
      · exact OwnFrom.and (OwnFrom.and (Own.from (holdsRow_own _ _ _ _ _ _ _ _) _) (Own.from (boxed_kept _ _ _) _)) (ownFrom_below (Nat.le_refl _) (by simp; omega))
      · refine ⟨⟨⟨_, b7', ?_, trivial⟩, bN⟩, hB0⟩
        have := (HOUT.out.alloc (.cells #[.slice (some ⟨go, 0, none⟩) (dl + 1) gc] 75)).alloc (.cells #[.slice bso j bsc] 29)
        simpa [laidD, HDL.out] using this
      case assign =>
        intro l x W K hK
        dsimp only [encB]
        gi_wp2
        exact hK
      case body =>
        rintro l pre x W ⟨⟨⟨v, hv, hrow, _⟩, hN⟩, hB⟩ hlt
        obtain ⟨ml, hml⟩ := laidD_pos gk pre
        obtain ⟨vg, vc, rfl⟩ := ownsRow_succ (hml ▸ hrow)
        have hc := hv.cell
        have hx19 : x.2.1 < 18446744073709551616 := by have := x.2.2; omega
        have htw : Tens W.drew := (HT2.out.below hB).below ((Below.refl _ _).drew')
        have hxl : (Lib.decDigits x.2.1).length ≤ 3000000 := by have := dec_len (n := x.2.1) (k := 19) x.2.2 (by omega); omega
        have hFw : ∀ k, Fence.wide.fn k := fun _ => trivial
        have hmx : Tryz.prog.follows .mixedOrders = true := by kernel_rfl
        have hcell0 : ∀ w', Below W.heap.size W w' → w'.cell? ⟨w3.heap.size, 0, none⟩ = some (.slice (some ⟨vg, 0, none⟩) (ml + 1) vc) := fun w' hb => (hb.cell (p := ⟨w3.heap.size, 0, none⟩) hv.lt).trans hc
        have hln : (laidD gk pre).length ≤ 100000000000 := by have := laidD_len hgk pre; omega
        have HLN := Lib.hid hln; have HROW := Lib.hid hrow; have HML := Lib.hid hml; have HC0 := Lib.hid hcell0
        clear hml hrow hcell0 hln
        gi_wp2
        refine wpIn_region_any hmx ?_
        change wpAnyIn _ _ _ _ _ _ _ _ _ (World.drew _)
        refine rnd_ready [0, 1] (by kernel_rfl) (by simp) (fun i hi => ?_)
        rcases List.mem_cons.1 hi with rfl | hi
        · have hcl := HC0.out _ ((Below.refl W.heap.size W).drew')
          refine rnd_value rfl rfl (by intro c h; cases h) (v := .slice (some ⟨vg, 0, none⟩) (ml + 1) vc) (w' := W.drew) (by go_simp) ?_
          clear hcl
          refine rnd_ready [1] (by kernel_rfl) (by simp) (fun i hi => ?_)
          obtain rfl := List.mem_singleton.1 hi
          refine rnd_value rfl rfl (by intro c h; cases h) (v := .int .u64 (x.2.1 : Int)) (w' := W.drew) (by go_simp) ?_
          refine rnd_ready [2] (by kernel_rfl) (by simp) (fun i hi => ?_)
          obtain rfl := List.mem_singleton.1 hi
          refine rnd_call rfl rfl (by intro c h; cases h) (by go_simp) (format_any x.2.1 _ hx19 htw) ?_
          rintro e w5 ⟨rfl, hb5_⟩
          have hb5 : Below W.heap.size W w5 := ((Below.refl _ _).drew').trans hb5_
          refine ⟨_, rfl, ?_⟩
          refine rnd_ready [3] (by kernel_rfl) (by simp) (fun i hi => ?_)
          obtain rfl := List.mem_singleton.1 hi
          refine rnd_call rfl rfl (by intro c h; cases h) (by go_simp) (padded_any _ 19 _ hxl (by omega)) ?_
          rintro e w6 ⟨rfl, hb6⟩
          have hb56 : Below W.heap.size W w6 := hb5.trans (hb6.mono hb5.size)
          refine ⟨_, rfl, ?_⟩
          refine rnd_ready [4] (by kernel_rfl) (by simp) (fun i hi => ?_)
          obtain rfl := List.mem_singleton.1 hi
          obtain ⟨g7, c7, w7, hrun, hown7, hgrow7⟩ := append_text (m := padK 19 (Lib.decDigits x.2.1)) (owns_below HROW.out hb56) HLN.out (by rw [blk_len x.2]; omega) (by rw [blk_len x.2]; omega) (Nat.le_trans hB.size hb56.size)
          rw [HML.out, blk_len x.2] at hrun hown7
          refine rnd_value rfl rfl (by intro c h; cases h) (v := .slice (some ⟨g7, 0, none⟩) (ml + 1 + 19) c7) (w' := w7) (run_append_op rfl rfl rfl hrun) ?_
          refine rnd_ready [5] (by kernel_rfl) (by simp) (fun i hi => ?_)
          obtain rfl := List.mem_singleton.1 hi
          have hv6 : Boxed w6 w3.heap.size 75 _ := (hb56.block _ hv.lt).trans hv
          have hv7 := hv6.kept hgrow7 (hv6.not_row (by decide) (owns_below HROW.out hb56))
          have hc7 := hv7.cell
          have hf7 := hv7.frozen
          refine rnd_skip rfl rfl (by intro c h; cases h) (w' := w7.setCell ⟨w3.heap.size, 0, none⟩ (.slice (some ⟨g7, 0, none⟩) (ml + 1 + 19) c7)) (by go_simp) ?_
          refine wpAnyIn_done (by kernel_rfl) ?_ _
          obtain ⟨r1, r2, r3, r4, r5, r6⟩ := round_end hb56 hv hN (by omega) hB.size hn3 HROW.out hown7 hgrow7
          exact ⟨r1.from _, r2, ⟨⟨_, r3, by rw [laidD_snoc, List.length_append, blk_len x.2, HML.out]; exact r4, trivial⟩, r5⟩, hB.trans r6⟩
        · obtain rfl := List.mem_singleton.1 hi
          refine rnd_value rfl rfl (by intro c h; cases h) (v := .int .u64 (x.2.1 : Int)) (w' := W.drew) (by go_simp) ?_
          refine rnd_ready [0, 2] (by kernel_rfl) (by simp) (fun i hi => ?_)
          rcases List.mem_cons.1 hi with rfl | hi
          · have hcl := HC0.out _ ((Below.refl W.heap.size W).drew')
            refine rnd_value rfl rfl (by intro c h; cases h) (v := .slice (some ⟨vg, 0, none⟩) (ml + 1) vc) (w' := W.drew) (by go_simp) ?_
            clear hcl
            refine rnd_ready [2] (by kernel_rfl) (by simp) (fun i hi => ?_)
            obtain rfl := List.mem_singleton.1 hi
            refine rnd_call rfl rfl (by intro c h; cases h) (by go_simp) (format_any x.2.1 _ hx19 htw) ?_
            rintro e w5 ⟨rfl, hb5_⟩
            have hb5 : Below W.heap.size W w5 := ((Below.refl _ _).drew').trans hb5_
            refine ⟨_, rfl, ?_⟩
            refine rnd_ready [3] (by kernel_rfl) (by simp) (fun i hi => ?_)
            obtain rfl := List.mem_singleton.1 hi
            refine rnd_call rfl rfl (by intro c h; cases h) (by go_simp) (padded_any _ 19 _ hxl (by omega)) ?_
            rintro e w6 ⟨rfl, hb6⟩
            have hb56 : Below W.heap.size W w6 := hb5.trans (hb6.mono hb5.size)
            refine ⟨_, rfl, ?_⟩
            refine rnd_ready [4] (by kernel_rfl) (by simp) (fun i hi => ?_)
            obtain rfl := List.mem_singleton.1 hi
            obtain ⟨g7, c7, w7, hrun, hown7, hgrow7⟩ := append_text (m := padK 19 (Lib.decDigits x.2.1)) (owns_below HROW.out hb56) HLN.out (by rw [blk_len x.2]; omega) (by rw [blk_len x.2]; omega) (Nat.le_trans hB.size hb56.size)
            rw [HML.out, blk_len x.2] at hrun hown7
            refine rnd_value rfl rfl (by intro c h; cases h) (v := .slice (some ⟨g7, 0, none⟩) (ml + 1 + 19) c7) (w' := w7) (run_append_op rfl rfl rfl hrun) ?_
            refine rnd_ready [5] (by kernel_rfl) (by simp) (fun i hi => ?_)
            obtain rfl := List.mem_singleton.1 hi
            have hv6 : Boxed w6 w3.heap.size 75 _ := (hb56.block _ hv.lt).trans hv
            have hv7 := hv6.kept hgrow7 (hv6.not_row (by decide) (owns_below HROW.out hb56))
            have hc7 := hv7.cell
            have hf7 := hv7.frozen
            refine rnd_skip rfl rfl (by intro c h; cases h) (w' := w7.setCell ⟨w3.heap.size, 0, none⟩ (.slice (some ⟨g7, 0, none⟩) (ml + 1 + 19) c7)) (by go_simp) ?_
            refine wpAnyIn_done (by kernel_rfl) ?_ _
            obtain ⟨r1, r2, r3, r4, r5, r6⟩ := round_end hb56 hv hN (by omega) hB.size hn3 HROW.out hown7 hgrow7
            exact ⟨r1.from _, r2, ⟨⟨_, r3, by rw [laidD_snoc, List.length_append, blk_len x.2, HML.out]; exact r4, trivial⟩, r5⟩, hB.trans r6⟩
          · obtain rfl := List.mem_singleton.1 hi
            refine rnd_call rfl rfl (by intro c h; cases h) (by go_simp) (format_any x.2.1 _ hx19 htw) ?_
            rintro e w5 ⟨rfl, hb5_⟩
            have hb5 : Below W.heap.size W w5 := ((Below.refl _ _).drew').trans hb5_
            refine ⟨_, rfl, ?_⟩
            refine rnd_ready [0, 3] (by kernel_rfl) (by simp) (fun i hi => ?_)
            rcases List.mem_cons.1 hi with rfl | hi
            · have hcl := HC0.out _ hb5
              refine rnd_value rfl rfl (by intro c h; cases h) (v := .slice (some ⟨vg, 0, none⟩) (ml + 1) vc) (w' := w5) (by go_simp) ?_
              clear hcl
              refine rnd_ready [3] (by kernel_rfl) (by simp) (fun i hi => ?_)
              obtain rfl := List.mem_singleton.1 hi
              refine rnd_call rfl rfl (by intro c h; cases h) (by go_simp) (padded_any _ 19 _ hxl (by omega)) ?_
              rintro e w6 ⟨rfl, hb6⟩
              have hb56 : Below W.heap.size W w6 := hb5.trans (hb6.mono hb5.size)
              refine ⟨_, rfl, ?_⟩
              refine rnd_ready [4] (by kernel_rfl) (by simp) (fun i hi => ?_)
              obtain rfl := List.mem_singleton.1 hi
              obtain ⟨g7, c7, w7, hrun, hown7, hgrow7⟩ := append_text (m := padK 19 (Lib.decDigits x.2.1)) (owns_below HROW.out hb56) HLN.out (by rw [blk_len x.2]; omega) (by rw [blk_len x.2]; omega) (Nat.le_trans hB.size hb56.size)
              rw [HML.out, blk_len x.2] at hrun hown7
              refine rnd_value rfl rfl (by intro c h; cases h) (v := .slice (some ⟨g7, 0, none⟩) (ml + 1 + 19) c7) (w' := w7) (run_append_op rfl rfl rfl hrun) ?_
              refine rnd_ready [5] (by kernel_rfl) (by simp) (fun i hi => ?_)
              obtain rfl := List.mem_singleton.1 hi
              have hv6 : Boxed w6 w3.heap.size 75 _ := (hb56.block _ hv.lt).trans hv
              have hv7 := hv6.kept hgrow7 (hv6.not_row (by decide) (owns_below HROW.out hb56))
              have hc7 := hv7.cell
              have hf7 := hv7.frozen
              refine rnd_skip rfl rfl (by intro c h; cases h) (w' := w7.setCell ⟨w3.heap.size, 0, none⟩ (.slice (some ⟨g7, 0, none⟩) (ml + 1 + 19) c7)) (by go_simp) ?_
              refine wpAnyIn_done (by kernel_rfl) ?_ _
              obtain ⟨r1, r2, r3, r4, r5, r6⟩ := round_end hb56 hv hN (by omega) hB.size hn3 HROW.out hown7 hgrow7
              exact ⟨r1.from _, r2, ⟨⟨_, r3, by rw [laidD_snoc, List.length_append, blk_len x.2, HML.out]; exact r4, trivial⟩, r5⟩, hB.trans r6⟩
            · obtain rfl := List.mem_singleton.1 hi
              refine rnd_call rfl rfl (by intro c h; cases h) (by go_simp) (padded_any _ 19 _ hxl (by omega)) ?_
              rintro e w6 ⟨rfl, hb6⟩
              have hb56 : Below W.heap.size W w6 := hb5.trans (hb6.mono hb5.size)
              refine ⟨_, rfl, ?_⟩
              refine rnd_ready [0] (by kernel_rfl) (by simp) (fun i hi => ?_)
              obtain rfl := List.mem_singleton.1 hi
              have hcl := HC0.out _ hb56
              refine rnd_value rfl rfl (by intro c h; cases h) (v := .slice (some ⟨vg, 0, none⟩) (ml + 1) vc) (w' := w6) (by go_simp) ?_
              clear hcl
              refine rnd_ready [4] (by kernel_rfl) (by simp) (fun i hi => ?_)
              obtain rfl := List.mem_singleton.1 hi
              obtain ⟨g7, c7, w7, hrun, hown7, hgrow7⟩ := append_text (m := padK 19 (Lib.decDigits x.2.1)) (owns_below HROW.out hb56) HLN.out (by rw [blk_len x.2]; omega) (by rw [blk_len x.2]; omega) (Nat.le_trans hB.size hb56.size)
              rw [HML.out, blk_len x.2] at hrun hown7
              refine rnd_value rfl rfl (by intro c h; cases h) (v := .slice (some ⟨g7, 0, none⟩) (ml + 1 + 19) c7) (w' := w7) (run_append_op rfl rfl rfl hrun) ?_
              refine rnd_ready [5] (by kernel_rfl) (by simp) (fun i hi => ?_)
              obtain rfl := List.mem_singleton.1 hi
              have hv6 : Boxed w6 w3.heap.size 75 _ := (hb56.block _ hv.lt).trans hv
              have hv7 := hv6.kept hgrow7 (hv6.not_row (by decide) (owns_below HROW.out hb56))
              have hc7 := hv7.cell
              have hf7 := hv7.frozen
              refine rnd_skip rfl rfl (by intro c h; cases h) (w' := w7.setCell ⟨w3.heap.size, 0, none⟩ (.slice (some ⟨g7, 0, none⟩) (ml + 1 + 19) c7)) (by go_simp) ?_
              refine wpAnyIn_done (by kernel_rfl) ?_ _
              obtain ⟨r1, r2, r3, r4, r5, r6⟩ := round_end hb56 hv hN (by omega) hB.size hn3 HROW.out hown7 hgrow7
              exact ⟨r1.from _, r2, ⟨⟨_, r3, by rw [laidD_snoc, List.length_append, blk_len x.2, HML.out]; exact r4, trivial⟩, r5⟩, hB.trans r6⟩
      case done =>
        rintro D ys W hD rfl ⟨⟨⟨v, hv, hrow, _⟩, hN⟩, hB⟩ hK
        obtain ⟨ml, hml⟩ := laidD_pos gk (backs j g j)
        obtain ⟨vg, vc, rfl⟩ := ownsRow_succ (hml ▸ hrow)
        have hc := hv.cell
        have hcv : (convert 75 9 (.slice (some ⟨vg, 0, none⟩) (ml + 1) vc)).run Tryz.prog W = .ok (.string (str (Lib.decDigits X))) W := by
          have h := run_convert_bytes_back (P := Tryz.prog) W 75 9 5 ⟨vg, 0, none⟩ vc (laidD gk (backs j g j)) Tryz.underlying75 Tryz.underlying5 Tryz.underlying9 (fun q hq => by
            have := (hml ▸ hrow : W.ownsRow w2.heap.size 5 1 (.slice (some ⟨vg, 0, none⟩) (ml + 1) vc) (ml + 1) _).cellAt q (by omega)
            rw [Lib.add_plain, Nat.zero_add, this]
            simp [Lib.byteCells, hq])
          rw [hml] at h
          rw [h, laidD_all, ← HD.out]; rfl
        have HMLL := Lib.hid hml; have HROWW := Lib.hid hrow
        clear hml hrow
        gi_wp2
        go_wp2
        refine ⟨by simp, .inl ⟨_, _, rfl, run_takeDeferred hK, ?_⟩⟩
        have hall : Below w.heap.size w W := HB1.out.trans ((HBE2.out.trans (hB.mono HBE2.out.size)).mono HB1.out.size)
        exact ⟨_, results_tmp rfl _ _ _, rfl, hall.trans (belowK_b (w := w) (Nat.le_refl _) W D _ _ (by have := HB1.out.size; have := HBE2.out.size; simp at hD; omega) hK rfl rfl)⟩
      case stop =>
        rintro D c pre W _ _ h _
        exact h.elim
end Go.Proofs.YtbeohedkeklaiaaGreatDoor
/- deci: a number's text: signText, Digits, Fixed, Text. -/
namespace Go.Proofs.YtbeohedkeklaiaaGreatDoor
open Go.RowKit Go.MagM Go.MagS
theorem Tens.drew {w : World} (h : Tens w) : Tens w.drew := h.below ((Below.refl _ _).drew')
theorem dec_len_words {N L : Nat} (h : N < B ^ L) : (Lib.decDigits N).length ≤ 20 * L + 1 := by
  refine dec_len (k := 20 * L + 1) (Nat.lt_of_lt_of_le h ?_) (by omega)
  rw [Nat.pow_succ, Nat.pow_mul]
  have : B ^ L ≤ (10 ^ 20) ^ L := Nat.pow_le_pow_left (by unfold B; omega) L
  omega
theorem sgn_natAbs (m : Bool) (N : Nat) : (sgn m N).natAbs = N := by cases m <;> simp [sgn]
theorem sgnL_len (b : Bool) : (sgnL b).length ≤ 1 := by cases b <;> simp [sgnL]
/-- What two texts one behind the other are. -/
structure Cat (a b : List UInt8) : Prop where
  z1 : (str a).size = a.length
  z2 : (str b).size = b.length
  le : ¬ (9223372036854775807 < a.length + b.length)
  ap : str a ++ str b = str (a ++ b)
theorem Cat.of (a b : List UInt8) (h : a.length + b.length ≤ 9223372036854775807) : Cat a b := ⟨str_size a, str_size b, by omega, str_append a b⟩
set_option maxHeartbeats 4000000 in
theorem signText_neg (am : Bool) (ao : Option Addr) (an ac : Nat) (L : Nat) (X : Int) (w : World) (hL : L ≤ 100000) (fa_0 : Num w (.agg #[.bool am, .slice ao an ac]) L X) (hx : X < 0) :
    Calls Tryz.prog 47 #[.agg #[.bool am, .slice ao an ac]] w fun e w' => e = .returned (.string (str [45])) ∧ Below w.heap.size w w' := by
  have hB_0 := Below.refl w.heap.size w
  have hs : X.sign < 0 := Int.sign_neg_iff.2 hx
  obtain ⟨w1, hw1, pa_0, hb1, hs1⟩ := new_box w (w.heap.size) rfl [.bool am, .slice ao an ac] 32
  have hb1' : Below w.heap.size w w1 := hb1.mono (by omega)
  clear hb1
  have hB_1 := hB_0.trans (hb1'.mono hB_0.size)
  have fa_1 := fa_0.below hb1'
  clear hb1' hB_0 fa_0
  go_enter Tryz.func47, Tryz.ntmps47
  obtain ⟨pae0, pae1, pae2, pae3⟩ := pa_0.open2
  go_wp2_with fail
  refine (Sign_any _ L X _ (by omega) fa_1).mono ?_
  rintro e w2 ⟨rfl, hb2⟩
  clear pae0 pae1 pae2 pae3
  have hB_2 := hB_1.trans (hb2.mono hB_1.size)
  have fa_2 := fa_1.below hb2
  have pa_1 := pa_0.below hb2
  clear hb2 hB_1 fa_1 pa_0
  obtain ⟨pae0, pae1, pae2, pae3⟩ := pa_1.open2
  go_wp2
  go_ret
  exact ⟨rfl, hB_2⟩
set_option maxHeartbeats 4000000 in
theorem signText_pos (am : Bool) (ao : Option Addr) (an ac : Nat) (L : Nat) (X : Int) (w : World) (hL : L ≤ 100000) (fa_0 : Num w (.agg #[.bool am, .slice ao an ac]) L X) (hx : ¬ X < 0) :
    Calls Tryz.prog 47 #[.agg #[.bool am, .slice ao an ac]] w fun e w' => e = .returned (.string (str [])) ∧ Below w.heap.size w w' := by
  have hB_0 := Below.refl w.heap.size w
  have hs : ¬ X.sign < 0 := fun h => hx (Int.sign_neg_iff.1 h)
  obtain ⟨w1, hw1, pa_0, hb1, hs1⟩ := new_box w (w.heap.size) rfl [.bool am, .slice ao an ac] 32
  have hb1' : Below w.heap.size w w1 := hb1.mono (by omega)
  clear hb1
  have hB_1 := hB_0.trans (hb1'.mono hB_0.size)
  have fa_1 := fa_0.below hb1'
  clear hb1' hB_0 fa_0
  go_enter Tryz.func47, Tryz.ntmps47
  obtain ⟨pae0, pae1, pae2, pae3⟩ := pa_0.open2
  go_wp2_with fail
  refine (Sign_any _ L X _ (by omega) fa_1).mono ?_
  rintro e w2 ⟨rfl, hb2⟩
  clear pae0 pae1 pae2 pae3
  have hB_2 := hB_1.trans (hb2.mono hB_1.size)
  have fa_2 := fa_1.below hb2
  have pa_1 := pa_0.below hb2
  clear hb2 hB_1 fa_1 pa_0
  obtain ⟨pae0, pae1, pae2, pae3⟩ := pa_1.open2
  go_wp2
  go_ret
  exact ⟨rfl, hB_2⟩
theorem signText_any (am : Bool) (ao : Option Addr) (an ac : Nat) (L : Nat) (X : Int) (w : World) (hL : L ≤ 100000) (fa_0 : Num w (.agg #[.bool am, .slice ao an ac]) L X) : Calls Tryz.prog 47 #[.agg #[.bool am, .slice ao an ac]] w fun e w' => e = .returned (.string (str (sgnL (decide (X < 0))))) ∧ Below w.heap.size w w' := by
  by_cases h : X < 0
  · rw [decide_eq_true h]; exact signText_neg _ _ _ _ L X w hL fa_0 h
  · rw [decide_eq_false h]; exact signText_pos _ _ _ _ L X w hL fa_0 h
set_option maxHeartbeats 4000000 in
theorem digits_core (am : Bool) (ao : Option Addr) (an ac : Nat) (L N : Nat) (X : Int) (w : World) (hL : L ≤ 100000) (fa_0 : Num w (.agg #[.bool am, .slice ao an ac]) L X) (fm_0 : Mag w (.slice ao an ac) L N) (ft_0 : Tens w) :
    Calls Tryz.prog 17 #[.agg #[.bool am, .slice ao an ac]] w fun e w' => e = .returned (.string (str (sgnL (decide (X < 0)) ++ Lib.decDigits N))) ∧ Below w.heap.size w w' := by
  have hB_0 := Below.refl w.heap.size w
  obtain ⟨z1, z2, z3, z4⟩ := Cat.of (sgnL (decide (X < 0))) (Lib.decDigits N) (by have := sgnL_len (decide (X < 0)); have := dec_len_words fm_0.lt; omega)
  obtain ⟨w1, hw1, pa_0, hb1, hs1⟩ := new_box w (w.heap.size) rfl [.bool am, .slice ao an ac] 32
  have hb1' : Below w.heap.size w w1 := hb1.mono (by omega)
  clear hb1
  have hB_1 := hB_0.trans (hb1'.mono hB_0.size)
  have fa_1 := fa_0.below hb1'
  have fm_1 := fm_0.below hb1'
  have ft_1 := ft_0.below hb1'
  clear hb1' hB_0 fa_0 fm_0 ft_0
  go_enter Tryz.func17, Tryz.ntmps17
  go_wp2
  have hB_2 := hB_1.drew'
  have fa_2 := fa_1.drew
  have fm_2 := fm_1.drew
  have ft_2 := ft_1.drew
  have pa_1 := pa_0.drew
  clear hB_1 fa_1 fm_1 ft_1 pa_0
  go_region_held3 (fun w' => w'.cell? ⟨w.heap.size, 0, none⟩ = some (.bool am) ∧ w'.cell? ⟨w.heap.size, 1, none⟩ = some (.slice ao an ac))
    (first | with_reducible exact ⟨pa_1.c0, pa_1.c1⟩ | with_reducible exact ⟨pa_2.c0, pa_2.c1⟩ | with_reducible exact ⟨pa_3.c0, pa_3.c1⟩ | fail)
    (first
      | (go_at_call 47; (with_reducible refine (signText_any _ _ _ _ L X _ hL fa_2).mono ?_); rintro e w2 ⟨rfl, hb2⟩; have hB_3 := hB_2.trans (hb2.mono hB_2.size); have fa_3 := fa_2.below hb2; have fm_3 := fm_2.below hb2; have ft_3 := ft_2.below hb2; have pa_2 := pa_1.below hb2; clear hb2 hB_2 fa_2 fm_2 ft_2 pa_1)
      | (go_at_call 46; (with_reducible refine (digitsOf_any _ L N _ hL fm_3 ft_3).mono ?_); rintro e w3 ⟨rfl, hb3⟩; have hB_4 := hB_3.trans (hb3.mono hB_3.size); have fa_4 := fa_3.below hb3; have fm_4 := fm_3.below hb3; have ft_4 := ft_3.below hb3; have pa_3 := pa_2.below hb3; clear hb3 hB_3 fa_3 fm_3 ft_3 pa_2))
  go_wp2
  go_ret
  exact ⟨rfl, hB_4⟩
theorem dDigits_any (va : Value) (L : Nat) (X : Int) (w : World) (hL : L ≤ 100000) (ha : Num w va L X) (ht : Tens w) : Calls Tryz.prog 17 #[va] w fun e w' => e = .returned (.string (str (wtext X))) ∧ Below w.heap.size w w' := by
  have h0 := ha
  obtain ⟨m, vm, N, rfl, hm, rfl⟩ := ha
  obtain ⟨ao, n, c, rfl⟩ := hm.slice
  have h := digits_core m ao n c L N (sgn m N) w hL h0 hm ht
  rw [show sgnL (decide (sgn m N < 0)) ++ Lib.decDigits N = wtext (sgn m N) by unfold wtext; rw [sgn_natAbs]] at h
  exact h
theorem scaleOf_below (s : Int) (k : Nat) (w : World) (hk : scl s = k) : Calls Tryz.prog 43 #[.int .i64 s] w fun e w' => e = .returned (.int .i64 (k : Int)) ∧ Below w.heap.size w w' := by
  refine (scaleOf_any s w).mono fun e w' h => ?_
  obtain ⟨rfl, rfl⟩ := h
  exact ⟨by rw [hk], Below.refl _ _⟩
theorem padded_one (l : List UInt8) (k : Nat) (w : World) (hl : l.length ≤ 2000005) (hk : k ≤ 9) : Calls Tryz.prog 45 #[.string (str l), .int .i64 ((k : Int) + 1)] w fun e w' => e = .returned (.string (str (padK (k + 1) l))) ∧ Below w.heap.size w w' := padded_any l (k + 1) w (by omega) (by omega)
theorem digitsOf_named (d : List UInt8) (L N : Nat) (w : World) (hd : Lib.decDigits N = d) {va : Value} (hL : L ≤ 100000) (ha : Mag w va L N) (ht : Tens w) : Calls Tryz.prog 46 #[va] w fun e w' => e = .returned (.string (str d)) ∧ Below w.heap.size w w' := hd ▸ digitsOf_any va L N w hL ha ht
theorem padded_named (p d : List UInt8) (k : Nat) (w : World) (hl : d.length ≤ 2000005) (hk : k ≤ 9) (hp : padK (k + 1) d = p) : Calls Tryz.prog 45 #[.string (str d), .int .i64 ((k : Int) + 1)] w fun e w' => e = .returned (.string (str p)) ∧ Below w.heap.size w w' := hp ▸ padded_one d k w hl hk
theorem signText_named (s : List UInt8) (am : Bool) (ao : Option Addr) (an ac : Nat) (L : Nat) (X : Int) (w : World) (hs : sgnL (decide (X < 0)) = s) (hL : L ≤ 100000) (fa_0 : Num w (.agg #[.bool am, .slice ao an ac]) L X) : Calls Tryz.prog 47 #[.agg #[.bool am, .slice ao an ac]] w fun e w' => e = .returned (.string (str s)) ∧ Below w.heap.size w w' := hs ▸ signText_any am ao an ac L X w hL fa_0
set_option maxHeartbeats 4000000 in
theorem fixed_zero (am : Bool) (ao : Option Addr) (an ac : Nat) (L N : Nat) (X : Int) (w : World) (sc : Int) (k : Nat) (hsc : scl sc = k) (hk9 : k ≤ 9) (hL : L ≤ 100000) (hk0 : k = 0) (fa_0 : Num w (.agg #[.bool am, .slice ao an ac]) L X) (fm_0 : Mag w (.slice ao an ac) L N) (ft_0 : Tens w) :
    Calls Tryz.prog 15 #[.agg #[.bool am, .slice ao an ac], .int .i64 sc] w fun e w' => e = .returned (.string (str (sgnL (decide (X < 0)) ++ pointed k (padK (k + 1) (Lib.decDigits N))))) ∧ Below w.heap.size w w' := by
  have hB_0 := Below.refl w.heap.size w
  have hdl : (Lib.decDigits N).length ≤ 2000005 := by have := dec_len_words fm_0.lt; omega
  obtain ⟨d, hd⟩ : ∃ d, Lib.decDigits N = d := ⟨_, rfl⟩
  rw [hd] at hdl
  have hpl : (padK (k + 1) d).length ≤ 2000015 := by rw [padK_len]; omega
  have hpk : k + 1 ≤ (padK (k + 1) d).length := by rw [padK_len]; omega
  obtain ⟨p, hp⟩ : ∃ p, padK (k + 1) d = p := ⟨_, rfl⟩
  rw [hp] at hpl hpk
  obtain ⟨s, hs⟩ : ∃ s, sgnL (decide (X < 0)) = s := ⟨_, rfl⟩
  have hsl : s.length ≤ 1 := hs ▸ sgnL_len _
  have D := Lib.hid hd; have P := Lib.hid hp; have SS := Lib.hid hs
  clear hd hp hs
  obtain rfl : k = 0 := hk0
  obtain ⟨z1, z2, z3, z4⟩ := Cat.of s p (by omega)
  obtain ⟨w1, hw1, pa_0, hb1, hs1⟩ := new_box w (w.heap.size) rfl [.bool am, .slice ao an ac] 32
  have hb1' : Below w.heap.size w w1 := hb1.mono (by omega)
  clear hb1
  have hB_1 := hB_0.trans (hb1'.mono hB_0.size)
  have fa_1 := fa_0.below hb1'
  have fm_1 := fm_0.below hb1'
  have ft_1 := ft_0.below hb1'
  clear hb1' hB_0 fa_0 fm_0 ft_0
  go_enter Tryz.func15, Tryz.ntmps15
  obtain ⟨pae0, pae1, pae2, pae3⟩ := pa_0.open2
  go_wp2_with fail
  refine (scaleOf_below sc 0 _ hsc).mono ?_
  rintro e w2 ⟨rfl, hb2⟩
  clear pae0 pae1 pae2 pae3
  have hB_2 := hB_1.trans (hb2.mono hB_1.size)
  have fa_2 := fa_1.below hb2
  have fm_2 := fm_1.below hb2
  have ft_2 := ft_1.below hb2
  have pa_1 := pa_0.below hb2
  clear hb2 hB_1 fa_1 fm_1 ft_1 pa_0
  obtain ⟨pae0, pae1, pae2, pae3⟩ := pa_1.open2
  clear pae0 pae1 pae2 pae3
  obtain ⟨pae0, pae1, pae2, pae3⟩ := pa_1.open2
  go_wp2_with fail
  refine (digitsOf_named d L N _ D.out hL fm_2 ft_2).mono ?_
  rintro e w3 ⟨rfl, hb3⟩
  clear pae0 pae1 pae2 pae3
  have hB_3 := hB_2.trans (hb3.mono hB_2.size)
  have fa_3 := fa_2.below hb3
  have fm_3 := fm_2.below hb3
  have ft_3 := ft_2.below hb3
  have pa_2 := pa_1.below hb3
  clear hb3 hB_2 fa_2 fm_2 ft_2 pa_1
  obtain ⟨pae0, pae1, pae2, pae3⟩ := pa_2.open2
  go_wp2_with fail
  refine (padded_named p d 0 _ (by omega) (by omega) P.out).mono ?_
  rintro e w4 ⟨rfl, hb4⟩
  clear pae0 pae1 pae2 pae3
  have hB_4 := hB_3.trans (hb4.mono hB_3.size)
  have fa_4 := fa_3.below hb4
  have fm_4 := fm_3.below hb4
  have ft_4 := ft_3.below hb4
  have pa_3 := pa_2.below hb4
  clear hb4 hB_3 fa_3 fm_3 ft_3 pa_2
  obtain ⟨pae0, pae1, pae2, pae3⟩ := pa_3.open2
  clear pae0 pae1 pae2 pae3
  obtain ⟨pae0, pae1, pae2, pae3⟩ := pa_3.open2
  go_wp2_with fail
  refine (signText_named s _ _ _ _ L X _ SS.out hL fa_4).mono ?_
  rintro e w5 ⟨rfl, hb5⟩
  clear pae0 pae1 pae2 pae3
  have hB_5 := hB_4.trans (hb5.mono hB_4.size)
  have fa_5 := fa_4.below hb5
  have fm_5 := fm_4.below hb5
  have ft_5 := ft_4.below hb5
  have pa_4 := pa_3.below hb5
  clear hb5 hB_4 fa_4 fm_4 ft_4 pa_3
  obtain ⟨pae0, pae1, pae2, pae3⟩ := pa_4.open2
  go_wp2
  go_ret
  have hw : pointed 0 (padK (0 + 1) (Lib.decDigits N)) = p := by rw [D.out, P.out]; unfold pointed; rfl
  refine ⟨?_, hB_5⟩
  rw [hw, SS.out]; rfl
set_option maxHeartbeats 4000000 in
theorem fixed_more (am : Bool) (ao : Option Addr) (an ac : Nat) (L N : Nat) (X : Int) (w : World) (sc : Int) (k : Nat) (hsc : scl sc = k) (hk9 : k ≤ 9) (hL : L ≤ 100000) (hk0 : ¬ k = 0) (fa_0 : Num w (.agg #[.bool am, .slice ao an ac]) L X) (fm_0 : Mag w (.slice ao an ac) L N) (ft_0 : Tens w) :
    Calls Tryz.prog 15 #[.agg #[.bool am, .slice ao an ac], .int .i64 sc] w fun e w' => e = .returned (.string (str (sgnL (decide (X < 0)) ++ pointed k (padK (k + 1) (Lib.decDigits N))))) ∧ Below w.heap.size w w' := by
  have hB_0 := Below.refl w.heap.size w
  have hdl : (Lib.decDigits N).length ≤ 2000005 := by have := dec_len_words fm_0.lt; omega
  obtain ⟨d, hd⟩ : ∃ d, Lib.decDigits N = d := ⟨_, rfl⟩
  rw [hd] at hdl
  have hpl : (padK (k + 1) d).length ≤ 2000015 := by rw [padK_len]; omega
  have hpk : k + 1 ≤ (padK (k + 1) d).length := by rw [padK_len]; omega
  obtain ⟨p, hp⟩ : ∃ p, padK (k + 1) d = p := ⟨_, rfl⟩
  rw [hp] at hpl hpk
  obtain ⟨s, hs⟩ : ∃ s, sgnL (decide (X < 0)) = s := ⟨_, rfl⟩
  have hsl : s.length ≤ 1 := hs ▸ sgnL_len _
  have D := Lib.hid hd; have P := Lib.hid hp; have SS := Lib.hid hs
  clear hd hp hs
  have hkb : ((k : Int) == 0) = false := by simp only [beq_eq_false_iff_ne]; omega
  obtain ⟨q, hq⟩ : ∃ q, p.length - k = q := ⟨_, rfl⟩
  obtain ⟨u, hu⟩ : ∃ u, p.take q = u := ⟨_, rfl⟩
  obtain ⟨v, hv⟩ : ∃ v, p.drop q = v := ⟨_, rfl⟩
  have hul : u.length ≤ 2000015 := by rw [← hu]; simp; omega
  have hvl : v.length ≤ 2000015 := by rw [← hv]; simp; omega
  have hzp : (str p).size = p.length := str_size p
  have hqi : (p.length : Int) - (k : Int) = (q : Int) := by omega
  have hq0 : (0 : Int) ≤ (q : Int) := by omega
  have hql : (q : Int) ≤ (p.length : Int) := by omega
  have hx1 : (str p).extract 0 q = str u := by rw [str_extract, ← hu]; simp
  have hx2 : (str p).extract q p.length = str v := by rw [str_extract, ← hv, List.take_of_length_le (by simp)]
  obtain ⟨z1, z2, z3, z4⟩ := Cat.of s u (by omega)
  obtain ⟨r1, hr1⟩ : ∃ r1, s ++ u = r1 := ⟨_, rfl⟩
  have hl1 : r1.length ≤ 2000016 := by rw [← hr1, List.length_append]; omega
  have y1 : (str r1).size = r1.length := str_size r1
  have y3 : ¬ (9223372036854775807 < r1.length + 1) := by omega
  obtain ⟨r2, hr2⟩ : ∃ r2, r1 ++ [46] = r2 := ⟨_, rfl⟩
  have hl2 : r2.length ≤ 2000017 := by rw [← hr2, List.length_append, List.length_singleton]; omega
  have y4 : str r1 ++ ⟨#[46]⟩ = str r2 := hr2 ▸ str_append r1 [46]
  have x1 : (str r2).size = r2.length := str_size r2
  have x2 : (str v).size = v.length := str_size v
  have x3 : ¬ (9223372036854775807 < r2.length + v.length) := by omega
  obtain ⟨r3, hr3⟩ : ∃ r3, r2 ++ v = r3 := ⟨_, rfl⟩
  have x4 : str r2 ++ str v = str r3 := hr3 ▸ str_append r2 v
  rw [hr1] at z4
  have R3 := Lib.hid (show r3 = s ++ (u ++ 46 :: v) by rw [← hr3, ← hr2, ← hr1]; simp)
  clear hr1 hr2 hr3
  have QQ := Lib.hid hq; have UU := Lib.hid hu; have VV := Lib.hid hv
  clear hq hu hv
  obtain ⟨w1, hw1, pa_0, hb1, hs1⟩ := new_box w (w.heap.size) rfl [.bool am, .slice ao an ac] 32
  have hb1' : Below w.heap.size w w1 := hb1.mono (by omega)
  clear hb1
  have hB_1 := hB_0.trans (hb1'.mono hB_0.size)
  have fa_1 := fa_0.below hb1'
  have fm_1 := fm_0.below hb1'
  have ft_1 := ft_0.below hb1'
  clear hb1' hB_0 fa_0 fm_0 ft_0
  go_enter Tryz.func15, Tryz.ntmps15
  obtain ⟨pae0, pae1, pae2, pae3⟩ := pa_0.open2
  go_wp2_with fail
  refine (scaleOf_below sc k _ hsc).mono ?_
  rintro e w2 ⟨rfl, hb2⟩
  clear pae0 pae1 pae2 pae3
  have hB_2 := hB_1.trans (hb2.mono hB_1.size)
  have fa_2 := fa_1.below hb2
  have fm_2 := fm_1.below hb2
  have ft_2 := ft_1.below hb2
  have pa_1 := pa_0.below hb2
  clear hb2 hB_1 fa_1 fm_1 ft_1 pa_0
  obtain ⟨pae0, pae1, pae2, pae3⟩ := pa_1.open2
  clear pae0 pae1 pae2 pae3
  obtain ⟨pae0, pae1, pae2, pae3⟩ := pa_1.open2
  go_wp2_with fail
  refine (digitsOf_named d L N _ D.out hL fm_2 ft_2).mono ?_
  rintro e w3 ⟨rfl, hb3⟩
  clear pae0 pae1 pae2 pae3
  have hB_3 := hB_2.trans (hb3.mono hB_2.size)
  have fa_3 := fa_2.below hb3
  have fm_3 := fm_2.below hb3
  have ft_3 := ft_2.below hb3
  have pa_2 := pa_1.below hb3
  clear hb3 hB_2 fa_2 fm_2 ft_2 pa_1
  obtain ⟨pae0, pae1, pae2, pae3⟩ := pa_2.open2
  go_wp2_with fail
  refine (padded_named p d k _ (by omega) (by omega) P.out).mono ?_
  rintro e w4 ⟨rfl, hb4⟩
  clear pae0 pae1 pae2 pae3
  have hB_4 := hB_3.trans (hb4.mono hB_3.size)
  have fa_4 := fa_3.below hb4
  have fm_4 := fm_3.below hb4
  have ft_4 := ft_3.below hb4
  have pa_3 := pa_2.below hb4
  clear hb4 hB_3 fa_3 fm_3 ft_3 pa_2
  obtain ⟨pae0, pae1, pae2, pae3⟩ := pa_3.open2
  go_wp2
  clear pae0 pae1 pae2 pae3
  have hB_5 := hB_4.drew'
  have fa_5 := fa_4.drew
  have fm_5 := fm_4.drew
  have ft_5 := ft_4.drew
  have pa_4 := pa_3.drew
  clear hB_4 fa_4 fm_4 ft_4 pa_3
  go_region_held3 (fun w' => w'.cell? ⟨w.heap.size, 0, none⟩ = some (.bool am) ∧ w'.cell? ⟨w.heap.size, 1, none⟩ = some (.slice ao an ac))
    (first | with_reducible exact ⟨pa_4.c0, pa_4.c1⟩ | with_reducible exact ⟨pa_5.c0, pa_5.c1⟩ | fail)
    (first
      | (go_at_call 47; (with_reducible refine (signText_named s _ _ _ _ L X _ SS.out hL fa_5).mono ?_); rintro e w5 ⟨rfl, hb5⟩; have hB_6 := hB_5.trans (hb5.mono hB_5.size); have fa_6 := fa_5.below hb5; have fm_6 := fm_5.below hb5; have ft_6 := ft_5.below hb5; have pa_5 := pa_4.below hb5; clear hb5 hB_5 fa_5 fm_5 ft_5 pa_4))
  go_wp2
  go_ret
  have hw : pointed k (padK (k + 1) (Lib.decDigits N)) = u ++ 46 :: v := by rw [D.out, P.out]; unfold pointed; rw [if_neg hk0, QQ.out, UU.out, VV.out]
  refine ⟨?_, hB_6⟩
  rw [hw, SS.out]
  rw [← R3.out]; rfl
theorem Fixed_any (va : Value) (L : Nat) (X : Int) (sc : Int) (w : World) (hL : L ≤ 100000) (ha : Num w va L X) (ht : Tens w) : Calls Tryz.prog 15 #[va, .int .i64 sc] w fun e w' => e = .returned (.string (str (ftext X (scl sc)))) ∧ Below w.heap.size w w' := by
  have h0 := ha
  obtain ⟨m, vm, N, rfl, hm, rfl⟩ := ha
  obtain ⟨ao, n, c, rfl⟩ := hm.slice
  have e : ∀ k, sgnL (decide (sgn m N < 0)) ++ pointed k (padK (k + 1) (Lib.decDigits N)) = ftext (sgn m N) k := by intro k; unfold ftext; rw [sgn_natAbs]
  by_cases hk : scl sc = 0
  · have h := fixed_zero m ao n c L N (sgn m N) w sc (scl sc) rfl (scl_le sc) hL hk h0 hm ht
    rw [e] at h; exact h
  · have h := fixed_more m ao n c L N (sgn m N) w sc (scl sc) rfl (scl_le sc) hL hk h0 hm ht
    rw [e] at h; exact h
theorem Text_any (n sc : Int) (w : World) (h1 : -9223372036854775808 ≤ n) (h2 : n < 9223372036854775808) (ht : Tens w) : Calls Tryz.prog 13 #[.int .i64 n, .int .i64 sc] w fun e w' => e = .returned (.string (str (ftext n (scl sc)))) ∧ Below w.heap.size w w' := by
  go_enter Tryz.func13, Tryz.ntmps13
  go_wp2_with (first
    | (go_at_call 16; refine (nOf_any n h1 h2 _).mono ?_; rintro e w1 ⟨m, ao, k, c, rfl, hn, hb1⟩)
    | (go_at_call 15; refine (Fixed_any _ 1 n sc _ (by omega) hn.num (ht.below hb1)).mono ?_; rintro e w2 ⟨rfl, hb2⟩))
  go_ret
  exact ⟨rfl, hb1.trans (hb2.mono hb1.size)⟩
end Go.Proofs.YtbeohedkeklaiaaGreatDoor
/- deci: Parse. -/
namespace Go.Proofs.YtbeohedkeklaiaaGreatDoor
open Go.RowKit Go.MagS
theorem parseL_long {l : List UInt8} (k : Nat) (h : 400 < l.length) : parseL l k = (0, 2) := by unfold parseL; rw [if_pos h]
theorem parseL_form {l r a b : List UInt8} {m p : Bool} (k : Nat) (h : ¬ 400 < l.length) (_ : (cutS l).1 = m) (h2 : (cutS l).2 = r) (h3 : cutC 46 r = (a, b, p)) (hf : (!allDig a || (p && !allDig b)) = true) : parseL l k = (0, 1) := by
  unfold parseL; rw [if_neg h]; simp only [h2, h3]; rw [if_pos hf]
theorem parseL_arg {l r a b c : List UInt8} {m p : Bool} (k : Nat) (h : ¬ 400 < l.length) (_ : (cutS l).1 = m) (h2 : (cutS l).2 = r) (h3 : cutC 46 r = (a, b, p)) (hf : (!allDig a || (p && !allDig b)) = false) (h4 : fitK b k = (c, false)) : parseL l k = (0, 3) := by
  unfold parseL; rw [if_neg h]; simp only [h2, h3, h4]; rw [if_neg (by rw [hf]; decide)]; rfl
theorem parseL_far {l r a b c : List UInt8} {m p : Bool} (k : Nat) (h : ¬ 400 < l.length) (_ : (cutS l).1 = m) (h2 : (cutS l).2 = r) (h3 : cutC 46 r = (a, b, p)) (hf : (!allDig a || (p && !allDig b)) = false) (h4 : fitK b k = (c, true)) (h5 : 2147483648 < dval 0 (a ++ c)) : parseL l k = (0, 4) := by
  unfold parseL; rw [if_neg h]; simp only [h2, h3, h4]; rw [if_neg (by rw [hf]; decide), if_neg (by decide), if_pos h5]
theorem parseL_ok {l r a b c : List UInt8} {m p : Bool} (k : Nat) (h : ¬ 400 < l.length) (h1 : (cutS l).1 = m) (h2 : (cutS l).2 = r) (h3 : cutC 46 r = (a, b, p)) (hf : (!allDig a || (p && !allDig b)) = false) (h4 : fitK b k = (c, true)) (h5 : ¬ 2147483648 < dval 0 (a ++ c)) :
    parseL l k = (if m then -(dval 0 (a ++ c) : Int) else (dval 0 (a ++ c) : Int), 0) := by
  unfold parseL; rw [if_neg h]; simp only [h1, h2, h3, h4]; rw [if_neg (by rw [hf]; decide), if_neg (by decide), if_neg h5]
theorem cutC_noPoint {l a b : List UInt8} (h : cutC 46 l = (a, b, false)) : b = [] := by
  rcases index_one 46 l with ⟨i, _, _, h3⟩ | ⟨_, h3⟩
  · rw [h3] at h; simp at h
  · rw [h3] at h; simp at h; first | exact h.2 | exact h.2.symm
theorem fitK_dig {b : List UInt8} {k : Nat} {c : List UInt8} {x : Bool} (h : fitK b k = (c, x)) (hb : b.all isDig = true) : c.all isDig = true := by
  unfold fitK at h; split at h
  · simp at h; rw [← h.1, List.all_append, zeros_dig, Bool.and_true]
    rw [List.all_eq_true] at hb ⊢
    intro y hy; exact hb y (List.mem_of_mem_take hy)
  · simp at h; rw [h.1]; rfl
theorem fitK_len {b : List UInt8} {k : Nat} {c : List UInt8} {x : Bool} (h : fitK b k = (c, x)) : c.length ≤ k := by
  unfold fitK at h; split at h
  · simp at h; rw [← h.1, List.length_append, List.length_take, List.length_replicate]; omega
  · simp at h; rw [h.1]; simp
theorem allDig_all {l : List UInt8} (h : allDig l = true) : l.all isDig = true := by unfold allDig at h; rw [Bool.and_eq_true] at h; exact h.1
set_option maxRecDepth 100000 in
set_option maxHeartbeats 4000000 in
theorem parse_any (l : List UInt8) (s : Int) (w : World) : Calls Tryz.prog 11 #[.string (str l), .int .i64 s] w fun e w' => e = .returned (.tuple #[.int .i64 (parseL l (scl s)).1, .int .i64 (parseL l (scl s)).2]) ∧ Below w.heap.size w w' := by
  have hz : (str l).size = l.length := str_size l
  obtain ⟨k, hk⟩ : ∃ k, scl s = k := ⟨_, rfl⟩
  have hk9 : k ≤ 9 := hk ▸ scl_le s
  have hsc := fun w => scaleOf_any s w
  rw [hk]
  simp only [hk] at hsc
  clear hk
  by_cases h400 : 400 < l.length
  · have HP := Lib.hid (parseL_long k h400)
    have h400' : (400 : Int) < (l.length : Int) := by omega
    go_enter Tryz.func11, Tryz.ntmps11
    go_wp2
    go_ret2
    exact ⟨by rw [HP.out]; rfl, Below.refl _ _⟩
  · obtain ⟨m, hm⟩ : ∃ m, (cutS l).1 = m := ⟨_, rfl⟩
    obtain ⟨r, hr⟩ : ∃ r, (cutS l).2 = r := ⟨_, rfl⟩
    obtain ⟨⟨a, b, p⟩, hc⟩ : ∃ x, cutC 46 r = x := ⟨_, rfl⟩
    obtain ⟨⟨c, x⟩, hf⟩ : ∃ y, fitK b k = y := ⟨_, rfl⟩
    have hcs := fun w => cutSign_any l w
    simp only [hm, hr] at hcs
    have hrl : r.length ≤ 400 := by have := cutS_len l; rw [hr] at this; omega
    have hal : a.length ≤ 400 ∧ b.length ≤ 400 := by have := cutC_len 46 r; rw [hc] at this; simp at this; omega
    have hcc := fun w => cut_any r 46 w (by omega)
    simp only [hc] at hcc
    have hfc := fun w => dfit_any b k w (by omega) hk9
    simp only [hf] at hfc
    have hda := fun w => isDigits_any a w (by omega)
    have hdb := fun w => isDigits_any b w (by omega)
    have h400' : ¬ (400 : Int) < (l.length : Int) := by omega
    have HM := Lib.hid hm; have HR := Lib.hid hr; have HC := Lib.hid hc; have HF := Lib.hid hf
    clear hm hr hc hf
    cases hA : allDig a with
    | false =>
      have HP := Lib.hid (parseL_form k h400 HM.out HR.out HC.out (by rw [hA]; rfl))
      simp only [hA] at hda
      clear hA hdb hfc hsc
      go_enter Tryz.func11, Tryz.ntmps11
      go_wp2_with (first
        | (go_at_call 39; refine (hcs _).mono ?_; clear hcs; rintro e w1 ⟨rfl, rfl⟩)
        | (go_at_call 40; refine (hcc _).mono ?_; clear hcc; rintro e w1 ⟨rfl, hb1⟩)
        | (go_at_call 41; refine (hda _).mono ?_; clear hda; rintro e w2 ⟨rfl, hb2⟩))
      go_ret2
      exact ⟨by rw [HP.out]; rfl, hb1.trans (hb2.mono hb1.size)⟩
    | true =>
      simp only [hA] at hda
      cases p with
      | true =>
        cases hB : allDig b with
        | false =>
          have HP := Lib.hid (parseL_form k h400 HM.out HR.out HC.out (by rw [hA, hB]; rfl))
          simp only [hB] at hdb
          clear hA hB hfc hsc
          go_enter Tryz.func11, Tryz.ntmps11
          go_wp2_with (first
            | (go_at_call 39; refine (hcs _).mono ?_; clear hcs; rintro e w1 ⟨rfl, rfl⟩)
            | (go_at_call 40; refine (hcc _).mono ?_; clear hcc; rintro e w1 ⟨rfl, hb1⟩; have HB1 := hb1)
            | (go_at_call 41; refine (hda _).mono ?_; clear hda; rintro e w2 ⟨rfl, hb2⟩; have HB2 := HB1.trans (hb2.mono HB1.size); clear HB1 hb2)
            | (go_at_call 41; refine (hdb _).mono ?_; clear hdb; rintro e w3 ⟨rfl, hb3⟩; have HB3 := HB2.trans (hb3.mono HB2.size); clear HB2 hb3))
          go_ret2
          exact ⟨by rw [HP.out]; rfl, HB3⟩
        | true =>
          simp only [hB] at hdb
          have hform : (!allDig a || (true && !allDig b)) = false := by rw [hA, hB]; rfl
          have hball := allDig_all hB
          have haall := allDig_all hA
          have hcl := fitK_len HF.out
          have hcall := fitK_dig HF.out hball
          clear hA hB hball
          cases x with
          | false =>
            have HP := Lib.hid (parseL_arg k h400 HM.out HR.out HC.out hform HF.out)
            clear hform haall hcall
            go_enter Tryz.func11, Tryz.ntmps11
            go_wp2_with (first
              | (go_at_call 39; refine (hcs _).mono ?_; clear hcs; rintro e w1 ⟨rfl, rfl⟩)
              | (go_at_call 40; refine (hcc _).mono ?_; clear hcc; rintro e w1 ⟨rfl, hb1⟩; have HB1 := hb1)
              | (go_at_call 41; refine (hda _).mono ?_; clear hda; rintro e w2 ⟨rfl, hb2⟩; have HB2 := HB1.trans (hb2.mono HB1.size); clear HB1 hb2)
              | (go_at_call 41; refine (hdb _).mono ?_; clear hdb; rintro e w3 ⟨rfl, hb3⟩; have HB3 := HB2.trans (hb3.mono HB2.size); clear HB2 hb3)
              | (go_at_call 43; refine (hsc _).mono ?_; clear hsc; rintro e w4 ⟨rfl, rfl⟩)
              | (go_at_call 42; refine (hfc _).mono ?_; clear hfc; rintro e w5 ⟨rfl, hb5⟩; have HB5 := HB3.trans (hb5.mono HB3.size); clear HB3 hb5))
            go_ret2
            exact ⟨by rw [HP.out]; rfl, HB5⟩
          | true =>
            have hca : (a ++ c).length ≤ 1000000 := by rw [List.length_append]; omega
            have hall : (a ++ c).all isDig = true := by rw [List.all_append, haall, hcall]; rfl
            have hcp := fun w => capped_any (a ++ c) w hca hall
            have hsa : (str a).size = a.length := str_size a
            have hsb : (str c).size = c.length := str_size c
            have hsl : ¬ (9223372036854775807 < a.length + c.length) := by omega
            have happ := str_append a c
            obtain ⟨n, hn⟩ : ∃ n, capN (dval 0 (a ++ c)) = n := ⟨_, rfl⟩
            simp only [hn] at hcp
            by_cases hfar : 2147483648 < dval 0 (a ++ c)
            · have hnv : (2147483648 : Int) < (n : Int) := by unfold capN at hn; omega
              have HP := Lib.hid (parseL_far k h400 HM.out HR.out HC.out hform HF.out hfar)
              clear hform haall hcall hall hca hn hfar
              go_enter Tryz.func11, Tryz.ntmps11
              go_wp2_with (first
                | (go_at_call 39; refine (hcs _).mono ?_; clear hcs; rintro e w1 ⟨rfl, rfl⟩)
                | (go_at_call 40; refine (hcc _).mono ?_; clear hcc; rintro e w1 ⟨rfl, hb1⟩; have HB1 := hb1)
                | (go_at_call 41; refine (hda _).mono ?_; clear hda; rintro e w2 ⟨rfl, hb2⟩; have HB2 := HB1.trans (hb2.mono HB1.size); clear HB1 hb2)
                | (go_at_call 41; refine (hdb _).mono ?_; clear hdb; rintro e w3 ⟨rfl, hb3⟩; have HB3 := HB2.trans (hb3.mono HB2.size); clear HB2 hb3)
                | (go_at_call 43; refine (hsc _).mono ?_; clear hsc; rintro e w4 ⟨rfl, rfl⟩)
                | (go_at_call 42; refine (hfc _).mono ?_; clear hfc; rintro e w5 ⟨rfl, hb5⟩; have HB5 := HB3.trans (hb5.mono HB3.size); clear HB3 hb5)
                | (go_at_call 44; refine (hcp _).mono ?_; clear hcp; rintro e w6 ⟨rfl, hb6⟩; have HB6 := HB5.trans (hb6.mono HB5.size); clear HB5 hb6))
              go_ret2
              exact ⟨by rw [HP.out]; rfl, HB6⟩
            · have hnv : ¬ (2147483648 : Int) < (n : Int) := by unfold capN at hn; omega
              have hnd : dval 0 (a ++ c) = n := by unfold capN at hn; omega
              have HP := Lib.hid (parseL_ok k h400 HM.out HR.out HC.out hform HF.out hfar)
              rw [hnd] at HP
              clear hform haall hcall hall hca hn hfar hnd
              cases m with
              | true =>
                go_enter Tryz.func11, Tryz.ntmps11
                go_wp2_with (first
                  | (go_at_call 39; refine (hcs _).mono ?_; clear hcs; rintro e w1 ⟨rfl, rfl⟩)
                  | (go_at_call 40; refine (hcc _).mono ?_; clear hcc; rintro e w1 ⟨rfl, hb1⟩; have HB1 := hb1)
                  | (go_at_call 41; refine (hda _).mono ?_; clear hda; rintro e w2 ⟨rfl, hb2⟩; have HB2 := HB1.trans (hb2.mono HB1.size); clear HB1 hb2)
                  | (go_at_call 41; refine (hdb _).mono ?_; clear hdb; rintro e w3 ⟨rfl, hb3⟩; have HB3 := HB2.trans (hb3.mono HB2.size); clear HB2 hb3)
                  | (go_at_call 43; refine (hsc _).mono ?_; clear hsc; rintro e w4 ⟨rfl, rfl⟩)
                  | (go_at_call 42; refine (hfc _).mono ?_; clear hfc; rintro e w5 ⟨rfl, hb5⟩; have HB5 := HB3.trans (hb5.mono HB3.size); clear HB3 hb5)
                  | (go_at_call 44; refine (hcp _).mono ?_; clear hcp; rintro e w6 ⟨rfl, hb6⟩; have HB6 := HB5.trans (hb6.mono HB5.size); clear HB5 hb6))
                go_ret2
                exact ⟨by rw [HP.out]; rfl, HB6⟩
              | false =>
                go_enter Tryz.func11, Tryz.ntmps11
                go_wp2_with (first
                  | (go_at_call 39; refine (hcs _).mono ?_; clear hcs; rintro e w1 ⟨rfl, rfl⟩)
                  | (go_at_call 40; refine (hcc _).mono ?_; clear hcc; rintro e w1 ⟨rfl, hb1⟩; have HB1 := hb1)
                  | (go_at_call 41; refine (hda _).mono ?_; clear hda; rintro e w2 ⟨rfl, hb2⟩; have HB2 := HB1.trans (hb2.mono HB1.size); clear HB1 hb2)
                  | (go_at_call 41; refine (hdb _).mono ?_; clear hdb; rintro e w3 ⟨rfl, hb3⟩; have HB3 := HB2.trans (hb3.mono HB2.size); clear HB2 hb3)
                  | (go_at_call 43; refine (hsc _).mono ?_; clear hsc; rintro e w4 ⟨rfl, rfl⟩)
                  | (go_at_call 42; refine (hfc _).mono ?_; clear hfc; rintro e w5 ⟨rfl, hb5⟩; have HB5 := HB3.trans (hb5.mono HB3.size); clear HB3 hb5)
                  | (go_at_call 44; refine (hcp _).mono ?_; clear hcp; rintro e w6 ⟨rfl, hb6⟩; have HB6 := HB5.trans (hb6.mono HB5.size); clear HB5 hb6))
                go_ret2
                exact ⟨by rw [HP.out]; rfl, HB6⟩
      | false =>
        have hform : (!allDig a || (false && !allDig b)) = false := by rw [hA]; rfl
        have hball : b.all isDig = true := by rw [cutC_noPoint HC.out]; rfl
        have haall := allDig_all hA
        have hcl := fitK_len HF.out
        have hcall := fitK_dig HF.out hball
        clear hA hball hdb
        cases x with
        | false =>
          have HP := Lib.hid (parseL_arg k h400 HM.out HR.out HC.out hform HF.out)
          clear hform haall hcall
          go_enter Tryz.func11, Tryz.ntmps11
          go_wp2_with (first
            | (go_at_call 39; refine (hcs _).mono ?_; clear hcs; rintro e w1 ⟨rfl, rfl⟩)
            | (go_at_call 40; refine (hcc _).mono ?_; clear hcc; rintro e w1 ⟨rfl, hb1⟩; have HB1 := hb1)
            | (go_at_call 41; refine (hda _).mono ?_; clear hda; rintro e w2 ⟨rfl, hb2⟩; have HB2 := HB1.trans (hb2.mono HB1.size); clear HB1 hb2)
            | (go_at_call 43; refine (hsc _).mono ?_; clear hsc; rintro e w4 ⟨rfl, rfl⟩)
            | (go_at_call 42; refine (hfc _).mono ?_; clear hfc; rintro e w5 ⟨rfl, hb5⟩; have HB5 := HB2.trans (hb5.mono HB2.size); clear HB2 hb5))
          go_ret2
          exact ⟨by rw [HP.out]; rfl, HB5⟩
        | true =>
          have hca : (a ++ c).length ≤ 1000000 := by rw [List.length_append]; omega
          have hall : (a ++ c).all isDig = true := by rw [List.all_append, haall, hcall]; rfl
          have hcp := fun w => capped_any (a ++ c) w hca hall
          have hsa : (str a).size = a.length := str_size a
          have hsb : (str c).size = c.length := str_size c
          have hsl : ¬ (9223372036854775807 < a.length + c.length) := by omega
          have happ := str_append a c
          obtain ⟨n, hn⟩ : ∃ n, capN (dval 0 (a ++ c)) = n := ⟨_, rfl⟩
          simp only [hn] at hcp
          by_cases hfar : 2147483648 < dval 0 (a ++ c)
          · have hnv : (2147483648 : Int) < (n : Int) := by unfold capN at hn; omega
            have HP := Lib.hid (parseL_far k h400 HM.out HR.out HC.out hform HF.out hfar)
            clear hform haall hcall hall hca hn hfar
            go_enter Tryz.func11, Tryz.ntmps11
            go_wp2_with (first
              | (go_at_call 39; refine (hcs _).mono ?_; clear hcs; rintro e w1 ⟨rfl, rfl⟩)
              | (go_at_call 40; refine (hcc _).mono ?_; clear hcc; rintro e w1 ⟨rfl, hb1⟩; have HB1 := hb1)
              | (go_at_call 41; refine (hda _).mono ?_; clear hda; rintro e w2 ⟨rfl, hb2⟩; have HB2 := HB1.trans (hb2.mono HB1.size); clear HB1 hb2)
              | (go_at_call 43; refine (hsc _).mono ?_; clear hsc; rintro e w4 ⟨rfl, rfl⟩)
              | (go_at_call 42; refine (hfc _).mono ?_; clear hfc; rintro e w5 ⟨rfl, hb5⟩; have HB5 := HB2.trans (hb5.mono HB2.size); clear HB2 hb5)
              | (go_at_call 44; refine (hcp _).mono ?_; clear hcp; rintro e w6 ⟨rfl, hb6⟩; have HB6 := HB5.trans (hb6.mono HB5.size); clear HB5 hb6))
            go_ret2
            exact ⟨by rw [HP.out]; rfl, HB6⟩
          · have hnv : ¬ (2147483648 : Int) < (n : Int) := by unfold capN at hn; omega
            have hnd : dval 0 (a ++ c) = n := by unfold capN at hn; omega
            have HP := Lib.hid (parseL_ok k h400 HM.out HR.out HC.out hform HF.out hfar)
            rw [hnd] at HP
            clear hform haall hcall hall hca hn hfar hnd
            cases m with
            | true =>
              go_enter Tryz.func11, Tryz.ntmps11
              go_wp2_with (first
                | (go_at_call 39; refine (hcs _).mono ?_; clear hcs; rintro e w1 ⟨rfl, rfl⟩)
                | (go_at_call 40; refine (hcc _).mono ?_; clear hcc; rintro e w1 ⟨rfl, hb1⟩; have HB1 := hb1)
                | (go_at_call 41; refine (hda _).mono ?_; clear hda; rintro e w2 ⟨rfl, hb2⟩; have HB2 := HB1.trans (hb2.mono HB1.size); clear HB1 hb2)
                | (go_at_call 43; refine (hsc _).mono ?_; clear hsc; rintro e w4 ⟨rfl, rfl⟩)
                | (go_at_call 42; refine (hfc _).mono ?_; clear hfc; rintro e w5 ⟨rfl, hb5⟩; have HB5 := HB2.trans (hb5.mono HB2.size); clear HB2 hb5)
                | (go_at_call 44; refine (hcp _).mono ?_; clear hcp; rintro e w6 ⟨rfl, hb6⟩; have HB6 := HB5.trans (hb6.mono HB5.size); clear HB5 hb6))
              go_ret2
              exact ⟨by rw [HP.out]; rfl, HB6⟩
            | false =>
              go_enter Tryz.func11, Tryz.ntmps11
              go_wp2_with (first
                | (go_at_call 39; refine (hcs _).mono ?_; clear hcs; rintro e w1 ⟨rfl, rfl⟩)
                | (go_at_call 40; refine (hcc _).mono ?_; clear hcc; rintro e w1 ⟨rfl, hb1⟩; have HB1 := hb1)
                | (go_at_call 41; refine (hda _).mono ?_; clear hda; rintro e w2 ⟨rfl, hb2⟩; have HB2 := HB1.trans (hb2.mono HB1.size); clear HB1 hb2)
                | (go_at_call 43; refine (hsc _).mono ?_; clear hsc; rintro e w4 ⟨rfl, rfl⟩)
                | (go_at_call 42; refine (hfc _).mono ?_; clear hfc; rintro e w5 ⟨rfl, hb5⟩; have HB5 := HB2.trans (hb5.mono HB2.size); clear HB2 hb5)
                | (go_at_call 44; refine (hcp _).mono ?_; clear hcp; rintro e w6 ⟨rfl, hb6⟩; have HB6 := HB5.trans (hb6.mono HB5.size); clear HB5 hb6))
              go_ret2
              exact ⟨by rw [HP.out]; rfl, HB6⟩
end Go.Proofs.YtbeohedkeklaiaaGreatDoor
/- deci: a text's number: blockValue, value. -/
namespace Go.Proofs.YtbeohedkeklaiaaGreatDoor
open Go.RowKit Go.MagM Go.MagS
theorem take_all {l : List UInt8} (k : Nat) (h : l.all isDig = true) : (l.take k).all isDig = true := by
  rw [List.all_eq_true] at *; intro x hx; exact h x (List.mem_of_mem_take hx)
theorem drop_all {l : List UInt8} (k : Nat) (h : l.all isDig = true) : (l.drop k).all isDig = true := by
  rw [List.all_eq_true] at *; intro x hx; exact h x (List.mem_of_mem_drop hx)
set_option maxRecDepth 100000 in
set_option maxHeartbeats 1000000 in
theorem blockValue_any (l : List UInt8) (w : World) (hl : l.length ≤ 19) (hall : l.all isDig = true) :
    Calls Tryz.prog 96 #[.string (str l)] w fun e w' => e = .returned (.int .u64 ((dval 0 l : Nat) : Int)) ∧ Below w.heap.size w w' := by
  obtain ⟨w1, cap, hconv, hcell, hbel⟩ := conv_bytes l w
  have HC := Lib.hid hcell; clear hcell
  have HA := Lib.hid hall; clear hall
  go_enter Tryz.func96, Tryz.ntmps96
  go_wp2
  clear hconv
  go_loop [3, 9] (fun n i => ∃ k : Nat, k ≤ l.length ∧ i = .int .i64 k ∧ n = .int .u64 ((dval 0 (l.take k) : Nat) : Int)) (fun _ i => l.length - (intOf i).toNat)
  case atStart => exact ⟨0, Nat.zero_le _, rfl, rfl⟩
  case round =>
    obtain ⟨k, hk, rfl, rfl⟩ := hrel
    have hlt0 := dval_lt (l.take k) (take_all k HA.out)
    obtain ⟨n, hn⟩ : ∃ n, dval 0 (l.take k) = n := ⟨_, rfl⟩
    rw [hn] at hlt0
    rw [hn]
    by_cases hlt : k < l.length
    · obtain ⟨x, hx⟩ : ∃ x, l[k]? = some x := ⟨_, List.getElem?_eq_getElem hlt⟩
      have hc := HC.out k x hx
      have hd := List.all_eq_true.1 HA.out x (List.mem_of_getElem? hx)
      rw [isDig_iff] at hd
      obtain ⟨d, hd2⟩ : ∃ d, x.toNat - 48 = d := ⟨_, rfl⟩
      have e1 : (x.toNat : Int) = (d : Int) + 48 := by omega
      have hd9 : d ≤ 9 := by omega
      have hst : ((dval 0 (l.take (k + 1)) : Nat) : Int) = 10 * (n : Int) + (d : Int) := by
        rw [take_snoc hx, dval_append, dval_cons, dval_nil, hd2, hn]; omega
      have hlk : (l.take k).length ≤ 18 := by rw [List.length_take]; omega
      have hp : 10 ^ (l.take k).length ≤ 10 ^ 18 := Nat.pow_le_pow_right (by omega) hlk
      have h18 : (10 : Nat) ^ 18 = 1000000000000000000 := rfl
      have hnb : n ≤ 1000000000000000000 := by omega
      have hb1 : 10 * (n : Int) + (d : Int) ≤ 18446744073709551615 := by omega
      have hb2 : 10 * (n : Int) ≤ 18446744073709551615 := by omega
      rw [e1] at hc
      have HST := Lib.hid hst
      clear hst hd hd2 e1 hx hn hp h18 hlt0 hlk
      go_wp2
      go_round
      case rel => exact ⟨k + 1, by omega, by go_num, by rw [HST.out]⟩
      case measure => simp [intOf]; omega
    · obtain rfl : k = l.length := by omega
      have HN := Lib.hid hn; clear hn hlt0
      go_wp2
      go_ret
      exact ⟨by rw [← HN.out, List.take_length]; rfl, hbel⟩
theorem blockValue_named (l : List UInt8) (x : Nat) (w : World) (hl : l.length ≤ 19) (hall : l.all isDig = true) (hx : dval 0 l = x) :
    Calls Tryz.prog 96 #[.string (str l)] w fun e w' => e = .returned (.int .u64 (x : Int)) ∧ Below w.heap.size w w' := hx ▸ blockValue_any l w hl hall
theorem block_lt {l : List UInt8} (hl : l.length ≤ 19) (hall : l.all isDig = true) : dval 0 l < B := by
  have h := dval_lt l hall
  have hp : 10 ^ l.length ≤ 10 ^ 19 := Nat.pow_le_pow_right (by omega) hl
  have h19 : (10 : Nat) ^ 19 = 10000000000000000000 := rfl
  unfold B; omega
/-- Where the loop stands: so many digits have been read. -/
def VaRel (w0 : World) (l : List UInt8) (g : Nat) (sv mv : Value) (wr : World) : Prop :=
  ∃ (k L : Nat), k + g = l.length ∧ sv = .string (str (l.drop k)) ∧ RMag wr mv L (dval 0 (l.take k)) ∧ L ≤ 2 * k ∧ Below w0.heap.size w0 wr ∧ (g = 0 ∨ k = 0 ∨ g % 19 = 0)
theorem value_step {l : List UInt8} {k r : Nat} (hl : k + r ≤ l.length) (hr : r ≤ 19) (h : r = 19 ∨ k = 0) : dval 0 (l.take k) * ten19 + dval 0 ((l.drop k).take r) = dval 0 (l.take (k + r)) := by
  have e : l.take (k + r) = l.take k ++ (l.drop k).take r := List.take_add
  rw [e, dval_append, dval_split (dval 0 (l.take k)), List.length_take, List.length_drop, Nat.min_eq_left (by omega)]
  rcases h with rfl | rfl
  · rw [ten19_eq]
  · simp [dval_nil]
theorem of19_any (w : World) : Calls Tryz.prog 49 #[.int .u64 10000000000000000000] w fun e w' => AnsRMag w w' e 1 ten19 := mOf_any ten19 w (by unfold ten19 B; omega)
theorem mAdd_any (va vb : Value) (L M X Y : Nat) (w : World) (hL : L ≤ 4000000000) (hM : M ≤ 4000000000) (ha : Mag w va L X) (hb : Mag w vb M Y) : Calls Tryz.prog 85 #[va, vb] w fun e w' => AnsRMag w w' e (max L M + 1) (X + Y) :=
  (Add_any va vb L M X Y w hL hM ha hb).mono fun _ _ h => AnsRMag.of h
set_option maxRecDepth 100000 in
set_option maxHeartbeats 4000000 in
theorem value_any (l : List UInt8) (w : World) (hl : l.length ≤ 1000) (hall : l.all isDig = true) :
    Calls Tryz.prog 71 #[.string (str l)] w fun e w' => ∃ v, e = .returned v ∧ RMag w' v (2 * l.length) (dval 0 l) ∧ Below w.heap.size w w' := by
  have HA := Lib.hid hall; clear hall
  go_enter Tryz.func71, Tryz.ntmps71
  go_wp2
  go_loopg [0, 3] l.length (fun g sv mv wr => VaRel w l g sv mv wr)
  case atStart => exact ⟨0, 0, by omega, by rw [List.drop_zero], RMag.nil _, Nat.le_refl _, Below.refl _ _, .inr (.inl rfl)⟩
  case round =>
    obtain ⟨k, L, hkg, rfl, hm, hL, hb, hg⟩ := hrel
    have hz : (str (l.drop k)).size = gk := by rw [str_size, List.length_drop]; omega
    have HM := Lib.hid hm; have HB := Lib.hid hb
    clear hm hb
    by_cases h0 : gk = 0
    · subst h0
      obtain rfl : k = l.length := by omega
      go_wp2
      go_ret
      have h1 := HM.out
      rw [List.take_length] at h1
      exact ⟨_, rfl, h1.more hL, HB.out⟩
    · obtain ⟨q, rfl⟩ : ∃ q, gk = q + 1 := ⟨gk - 1, by omega⟩
      obtain ⟨r, hr⟩ : ∃ r, q % 19 = r := ⟨_, rfl⟩
      have hri : (q : Int) % 19 = (r : Int) := by omega
      have hr18 : r ≤ 18 := by omega
      have hrq : r + 1 ≤ q + 1 := by omega
      have hrq2 : (r : Int) + 1 ≤ (q : Int) + 1 := by omega
      have hrq3 : (0 : Int) ≤ (r : Int) + 1 := by omega
      have hx1 : (str (l.drop k)).extract 0 (r + 1) = str ((l.drop k).take (r + 1)) := by rw [str_extract]; simp
      have hx2 : (str (l.drop k)).extract (r + 1) (q + 1) = str (l.drop (k + (r + 1))) := by
        rw [str_extract, List.take_of_length_le (by simp; omega), List.drop_drop]
      have hst := value_step (l := l) (k := k) (r := r + 1) (by omega) (by omega) (by
        rcases hg with h | h | h
        · omega
        · exact .inr h
        · left; omega)
      have hba : ((l.drop k).take (r + 1)).all isDig = true := take_all _ (drop_all _ HA.out)
      have hbl : ((l.drop k).take (r + 1)).length ≤ 19 := by rw [List.length_take]; omega
      obtain ⟨x, hx⟩ : ∃ x, dval 0 ((l.drop k).take (r + 1)) = x := ⟨_, rfl⟩
      have hxB : x < B := hx ▸ block_lt hbl hba
      obtain ⟨b, hbn⟩ : ∃ b, (l.drop k).take (r + 1) = b := ⟨_, rfl⟩
      rw [hx] at hst
      rw [hbn] at hx1 hba hbl hx
      obtain ⟨y, hy⟩ : ∃ y, dval 0 (l.take k) = y := ⟨_, rfl⟩
      rw [hy] at hst
      have hmy : Mag wr.drew u3 L y := by have := HM.out.mag; rw [hy] at this; exact this
      have HST := Lib.hid hst; have HX := Lib.hid hx; have HMY := Lib.hid hmy; have HR := Lib.hid hr; have HBA := Lib.hid hba
      clear hst hx hbn hy hmy hr hba HM
      have hbd := Lib.hid (HB.out.drew')
      go_wp2
      go_region_held3 (fun _ => True)
        (first | exact True.intro | fail)
        (first
          | (go_at_call 49; (with_reducible refine (of19_any _).mono ?_); rintro e w1 ⟨o1, n1, c1, rfl, f1, hb1⟩; have m1 := HMY.out.below hb1; have B1 := Lib.hid (hbd.out.trans (hb1.mono hbd.out.size)); clear hb1)
          | (go_at_call 59; (with_reducible refine (mMul_any _ _ L 1 y ten19 _ (by omega) (by omega) m1 f1.mag).mono ?_); rintro e w2 ⟨o2, n2, c2, rfl, f2, hb2⟩; have B2 := Lib.hid (B1.out.trans (hb2.mono B1.out.size)); clear hb2)
          | (go_at_call 96; (with_reducible refine (blockValue_named _ x _ hbl HBA.out HX.out).mono ?_); rintro e w3 ⟨rfl, hb3⟩; have f3 := f2.below hb3; have B3 := Lib.hid (B2.out.trans (hb3.mono B2.out.size)); clear hb3)
          | (go_at_call 49; (with_reducible refine (mOf_any x _ hxB).mono ?_); rintro e w4 ⟨o4, n4, c4, rfl, f4, hb4⟩; have f5 := f3.below hb4; have B4 := Lib.hid (B3.out.trans (hb4.mono B3.out.size)); clear hb4)
          | (go_at_call 85; (with_reducible refine (mAdd_any _ _ (L + 1) 1 (y * ten19) x _ (by omega) (by omega) f5.mag f4.mag).mono ?_); rintro e w5 ⟨o5, n5, c5, rfl, f6, hb5⟩; have B5 := Lib.hid (B4.out.trans (hb5.mono B4.out.size)); clear hb5))
      go_wp2
      go_roundg (q - r)
      case measure => omega
      case rel => exact ⟨k + (r + 1), L + 2, by omega, rfl, (HST.out ▸ f6).more (by omega), by omega, B5.out, by have := HR.out; omega⟩
end Go.Proofs.YtbeohedkeklaiaaGreatDoor
/- What a text of a sign, digits, a point and digits is read as. Of no program. -/
namespace Go.MagS
open Go
theorem dig_ne {c x : UInt8} (h : isDig c = true) (hx : isDig x = false) : c ≠ x := fun e => by rw [e, hx] at h; cases h
theorem cutC_dig {l : List UInt8} (h : l.all isDig = true) : cutC 46 l = (l, [], false) := by
  induction l with
  | nil => rfl
  | cons c l ih =>
    rw [List.all_cons, Bool.and_eq_true] at h
    simp only [cutC, if_neg (dig_ne h.1 (x := 46) (by decide)), ih h.2]
theorem cutC_point {l b : List UInt8} (h : l.all isDig = true) : cutC 46 (l ++ 46 :: b) = (l, b, true) := by
  induction l with
  | nil => simp [cutC]
  | cons c l ih =>
    rw [List.all_cons, Bool.and_eq_true] at h
    simp only [List.cons_append, cutC, if_neg (dig_ne h.1 (x := 46) (by decide)), ih h.2]
theorem cutS_dig {l r : List UInt8} (h : allDig l = true) : cutS (l ++ r) = (false, l ++ r) := by
  unfold allDig at h
  cases l with
  | nil => cases h
  | cons c l =>
    simp only [List.all_cons, Bool.and_eq_true] at h
    simp only [List.cons_append, cutS, if_neg (dig_ne h.1.1 (x := 45) (by decide)), if_neg (dig_ne h.1.1 (x := 43) (by decide))]
/-- A sign, digits, and, or not, a point and digits. -/
def pieces (sg : List UInt8) (a : List UInt8) (p : Bool) (b : List UInt8) : List UInt8 := sg ++ (a ++ (if p then 46 :: b else []))
theorem cutS_pieces {sg a b : List UInt8} {p m : Bool} (ha : allDig a = true) (hs : (sg = [] ∧ m = false) ∨ (sg = [45] ∧ m = true) ∨ (sg = [43] ∧ m = false)) : cutS (pieces sg a p b) = (m, a ++ (if p then 46 :: b else [])) := by
  unfold pieces
  rcases hs with ⟨rfl, rfl⟩ | ⟨rfl, rfl⟩ | ⟨rfl, rfl⟩
  · rw [List.nil_append]; exact cutS_dig ha
  · rfl
  · rfl
theorem cutC_pieces {a b : List UInt8} {p : Bool} (ha : allDig a = true) (hb : p = false → b = []) : cutC 46 (a ++ (if p then 46 :: b else [])) = (a, b, p) := by
  have h : a.all isDig = true := by unfold allDig at ha; rw [Bool.and_eq_true] at ha; exact ha.1
  cases p with
  | true => exact cutC_point h
  | false => rw [hb rfl]; simpa using cutC_dig h
/-- What such a text is read as, if the scale has a place for each digit that isn't 0. -/
theorem parse_pieces {sg a b c : List UInt8} {p m : Bool} {k : Nat} (ha : allDig a = true) (hb : p = true → allDig b = true) (hb0 : p = false → b = []) (hs : (sg = [] ∧ m = false) ∨ (sg = [45] ∧ m = true) ∨ (sg = [43] ∧ m = false))
    (hl : (pieces sg a p b).length ≤ 400) (hf : fitK b k = (c, true)) :
    parseL (pieces sg a p b) k = if 2147483648 < dval 0 (a ++ c) then (0, 4) else (if m then -(dval 0 (a ++ c) : Int) else (dval 0 (a ++ c) : Int), 0) := by
  unfold parseL
  rw [if_neg (by omega), cutS_pieces ha hs]
  simp only [cutC_pieces ha hb0, hf]
  have h1 : (!allDig a || (p && !allDig b)) = false := by
    rw [ha]
    cases p with
    | true => rw [hb rfl]; rfl
    | false => rfl
  rw [if_neg (by rw [h1]; decide), if_neg (by decide)]
theorem allDig_of {l : List UInt8} (h : l.all isDig = true) (h0 : 0 < l.length) : allDig l = true := by
  unfold allDig; rw [h]
  cases l with
  | nil => simp at h0
  | cons => rfl
theorem take_dig {l : List UInt8} (n : Nat) (h : l.all isDig = true) : (l.take n).all isDig = true := by
  rw [List.all_eq_true] at *; intro x hx; exact h x (List.mem_of_mem_take hx)
theorem drop_dig {l : List UInt8} (n : Nat) (h : l.all isDig = true) : (l.drop n).all isDig = true := by
  rw [List.all_eq_true] at *; intro x hx; exact h x (List.mem_of_mem_drop hx)
theorem fitK_self {b : List UInt8} {k : Nat} (h : b.length = k) : fitK b k = (b, true) := by
  unfold fitK
  rw [List.drop_of_length_le (by omega), if_pos (by rfl), List.take_of_length_le (by omega), show k - b.length = 0 by omega]
  simp
/-- The parts of a number's text. -/
theorem pointed_pieces (k : Nat) (l : List UInt8) (h : l.all isDig = true) (hl : k + 1 ≤ l.length) : ∃ a b, pointed k l = a ++ (if decide (0 < k) then 46 :: b else []) ∧ allDig a = true ∧ b.length = k ∧ b.all isDig = true ∧ a ++ b = l ∧ (decide (0 < k) = false → b = []) := by
  by_cases hk : k = 0
  · subst hk
    exact ⟨l, [], by simp [pointed], allDig_of h (by omega), rfl, rfl, by simp, fun _ => rfl⟩
  · refine ⟨l.take (l.length - k), l.drop (l.length - k), ?_, allDig_of (take_dig _ h) (by simp; omega), by simp; omega, drop_dig _ h, List.take_append_drop _ _, fun h => ?_⟩
    · unfold pointed; rw [if_neg hk, decide_eq_true (by omega)]; rfl
    · rw [decide_eq_false_iff_not] at h; omega
theorem ftext_len {x : Int} {k : Nat} (hx : x.natAbs < 10 ^ 19) (hk : k ≤ 9) : (ftext x k).length ≤ 32 := by
  have h1 := dec_len hx (by omega)
  unfold ftext pointed sgnL
  have h2 : (padK (k + 1) (Lib.decDigits x.natAbs)).length ≤ 20 := by rw [padK_len]; omega
  split <;> split <;> simp <;> omega
/-- A number's text is read as it. -/
theorem parse_ftext {x : Int} {k : Nat} (hx : x.natAbs < 10 ^ 19) (hk : k ≤ 9) : parseL (ftext x k) k = if 2147483648 < x.natAbs then (0, 4) else (x, 0) := by
  obtain ⟨a, b, h1, h2, h3, h4, h5, h6⟩ := pointed_pieces k (padK (k + 1) (Lib.decDigits x.natAbs)) (padK_dig (dec_dig _)) (by rw [padK_len]; omega)
  have e : ftext x k = pieces (sgnL (decide (x < 0))) a (decide (0 < k)) b := by unfold ftext pieces; rw [h1]
  have hlen := ftext_len hx hk
  rw [e] at hlen
  have hv : dval 0 (a ++ b) = x.natAbs := by rw [h5, padK_val, dec_val]
  have := parse_pieces (m := decide (x < 0)) (sg := sgnL (decide (x < 0))) h2 (fun hp => allDig_of h4 (by rw [h3]; simpa using hp)) h6 (by
    by_cases hn : x < 0
    · rw [decide_eq_true hn]; exact .inr (.inl ⟨rfl, rfl⟩)
    · rw [decide_eq_false hn]; exact .inl ⟨rfl, rfl⟩) (by omega) (fitK_self h3)
  rw [e, this, hv]
  split
  · rfl
  · by_cases hn : x < 0
    · rw [decide_eq_true hn, if_pos rfl]; congr 1; omega
    · rw [decide_eq_false hn, if_neg (by decide)]; congr 1; omega
end Go.MagS
/- Units: what a text is read as. -/
namespace Go.Proofs.YtbeohedkeklaiaaGreatDoor
open Go.RowKit Go.MagM Go.MagS
theorem cutM_dig {l r : List UInt8} (h : allDig l = true) : cutM (l ++ r) = (false, l ++ r) := by
  unfold allDig at h
  cases l with
  | nil => cases h
  | cons c l =>
    simp only [List.all_cons, Bool.and_eq_true] at h
    simp only [List.cons_append, cutM, if_neg (dig_ne h.1.1 (x := 45) (by decide))]
theorem sgn_abs (X : Int) : sgn (decide (X < 0)) X.natAbs = X := by
  by_cases h : X < 0
  · rw [decide_eq_true h, sgn_true]; omega
  · rw [decide_eq_false h, sgn_false]; omega
/-- The digits of a text, wherever its point stands. -/
def digL (l : List UInt8) : List UInt8 := (cutC 46 (cutM l).2).1 ++ (cutC 46 (cutM l).2).2.1
/-- What Units answers: the number, and the error. -/
def unitsL (l : List UInt8) (k : Nat) : Int × Int :=
  if 400 < l.length then (0, 2)
  else if allDig (digL l) = false then (0, 1)
  else if ftext (sgn (cutM l).1 (dval 0 (digL l))) k = l then (sgn (cutM l).1 (dval 0 (digL l)), 0) else (0, 1)
theorem unitsL_ftext {X : Int} {k : Nat} (hl : (ftext X k).length ≤ 400) : unitsL (ftext X k) k = (X, 0) := by
  obtain ⟨a, b, h1, h2, h3, h4, h5, h6⟩ := pointed_pieces k (padK (k + 1) (Lib.decDigits X.natAbs)) (padK_dig (dec_dig _)) (by rw [padK_len]; omega)
  have ha : a.all isDig = true := by unfold allDig at h2; rw [Bool.and_eq_true] at h2; exact h2.1
  have hm : cutM (ftext X k) = (decide (X < 0), a ++ (if decide (0 < k) then 46 :: b else [])) := by
    unfold ftext
    rw [h1]
    by_cases hn : X < 0
    · rw [decide_eq_true hn]; rfl
    · rw [decide_eq_false hn, show sgnL false = [] from rfl, List.nil_append]; exact cutM_dig h2
  have hd : digL (ftext X k) = a ++ b := by
    unfold digL; rw [hm]; simp only [cutC_pieces h2 h6]
  have hv : dval 0 (a ++ b) = X.natAbs := by rw [h5, padK_val, dec_val]
  have ha0 : 0 < a.length := by
    cases a with
    | nil => simp [allDig] at h2
    | cons => simp
  unfold unitsL
  rw [if_neg (by omega), hd, hm, hv]
  simp only [sgn_abs]
  rw [if_neg (by rw [allDig_of (by rw [List.all_append, ha, h4]; rfl) (by rw [List.length_append]; omega)]; decide), if_pos trivial]
theorem unitsL_cases (l : List UInt8) (k : Nat) : ((unitsL l k).2 = 0 ∧ ftext (unitsL l k).1 k = l ∧ l.length ≤ 400) ∨ ((unitsL l k).2 = 1 ∧ (unitsL l k).1 = 0 ∧ l.length ≤ 400) ∨ ((unitsL l k).2 = 2 ∧ (unitsL l k).1 = 0 ∧ 400 < l.length) := by
  unfold unitsL
  split
  · next h => exact .inr (.inr ⟨rfl, rfl, h⟩)
  · next h =>
    split
    · exact .inr (.inl ⟨rfl, rfl, by omega⟩)
    · split
      · next h2 => exact .inl ⟨rfl, h2, by omega⟩
      · exact .inr (.inl ⟨rfl, rfl, by omega⟩)
theorem digL_len (l : List UInt8) : (digL l).length ≤ 2 * l.length := by
  unfold digL
  have h1 := cutM_len l
  have h2 := cutC_len 46 (cutM l).2
  rw [List.length_append]; omega
theorem str_inj {a b : List UInt8} (h : str a = str b) : a = b := by rw [← str_data a, h, str_data]
def AnsNumE (w w' : World) (e : Ending) (L : Nat) (X c : Int) : Prop := ∃ m ao n k, e = .returned (.tuple #[.agg #[.bool m, .slice ao n k], .int .i64 c]) ∧ RNum w' (.agg #[.bool m, .slice ao n k]) L X ∧ Below w.heap.size w w'
theorem AnsNumE.of {w w' : World} {e : Ending} {L L' : Nat} {X Y c d : Int} (h : AnsNumE w w' e L X c) (hL : L ≤ L') (he : X = Y) (hc : c = d) : AnsNumE w w' e L' Y d := by
  subst he hc; obtain ⟨m, ao, n, k, h1, h2, h3⟩ := h; exact ⟨m, ao, n, k, h1, h2.more hL, h3⟩
theorem rnum_zero (w : World) : RNum w (.agg #[.bool false, .slice none 0 0]) 0 0 := ⟨false, _, 0, rfl, RMag.nil _, rfl, fun h => by cases h⟩
theorem value_w (l : List UInt8) (w : World) (hl : l.length ≤ 1000) (hall : l.all isDig = true) : Calls Tryz.prog 71 #[.string (str l)] w fun e w' => AnsRMag w w' e (2 * l.length) (dval 0 l) :=
  (value_any l w hl hall).mono fun _ _ h => AnsRMag.of h
end Go.Proofs.YtbeohedkeklaiaaGreatDoor
/- whole, Whole; the statement's own look at a text. -/
namespace Go.Proofs.YtbeohedkeklaiaaGreatDoor
open Go.RowKit Go.MagM Go.MagS
/-- Is the first byte a 0? -/
def zeroL (l : List UInt8) : Bool := l.head? == some 48
/-- Is it a whole number's text? -/
def okW (l : List UInt8) : Bool := allDig (cutM l).2 && (!zeroL (cutM l).2 || l == [48])
/-- Of what number? -/
def valW (l : List UInt8) : Int := sgn (cutM l).1 (dval 0 (cutM l).2)
theorem okW_wtext (X : Int) : okW (wtext X) = true ∧ valW (wtext X) = X := by
  have hm : cutM (wtext X) = (decide (X < 0), Lib.decDigits X.natAbs) := by
    unfold wtext
    by_cases hn : X < 0
    · rw [decide_eq_true hn]; rfl
    · rw [decide_eq_false hn, show sgnL false = [] from rfl, List.nil_append]
      have := cutM_dig (r := []) (dec_all X.natAbs)
      rw [List.append_nil] at this; exact this
  unfold okW valW
  rw [hm]
  simp only [dec_all, dec_val, sgn_abs, Bool.true_and]
  refine ⟨?_, trivial⟩
  by_cases h0 : X = 0
  · subst h0; rw [Bool.or_eq_true]; right; unfold wtext; simp [sgnL, dec_zero]
  · obtain ⟨c, r, e, hc⟩ := dec_head (n := X.natAbs) (by omega)
    rw [Bool.or_eq_true]; left
    unfold zeroL; rw [e]
    simp [hc]
theorem okW_text {l : List UInt8} (h : okW l = true) : wtext (valW l) = l := by
  unfold okW at h
  rw [Bool.and_eq_true, Bool.or_eq_true] at h
  obtain ⟨h1, h2⟩ := h
  have hd := allDig_all h1
  rcases h2 with h2 | h2
  · unfold zeroL at h2
    unfold valW wtext
    cases l with
    | nil => simp [cutM, allDig] at h1
    | cons a l =>
      by_cases ha : a = 45
      · subst ha
        rw [show cutM (45 :: l) = (true, l) from rfl] at h1 h2 hd ⊢
        simp only at h1 h2 hd ⊢
        cases l with
        | nil => simp [allDig] at h1
        | cons c r =>
          have hc : c ≠ 48 := by intro e; subst e; simp at h2
          have e1 := dec_of hd ⟨c, r, rfl, .inl hc⟩
          have hpos : dval 0 (c :: r) ≠ 0 := by
            intro e; rw [e, dec_zero] at e1; injection e1 with e2 _; exact hc e2.symm
          have hneg : sgn true (dval 0 (c :: r)) < 0 := by rw [sgn_true]; omega
          have hab : (sgn true (dval 0 (c :: r))).natAbs = dval 0 (c :: r) := by simp [sgn]
          rw [decide_eq_true hneg, hab, e1]; rfl
      · have e0 : cutM (a :: l) = (false, a :: l) := by simp only [cutM, if_neg ha]
        rw [e0] at h1 h2 hd ⊢
        simp only at h1 h2 hd ⊢
        have hc : a ≠ 48 := by intro e; subst e; simp at h2
        have e1 := dec_of hd ⟨a, l, rfl, .inl hc⟩
        have hneg : ¬ sgn false (dval 0 (a :: l)) < 0 := by rw [sgn_false]; omega
        have hab : (sgn false (dval 0 (a :: l))).natAbs = dval 0 (a :: l) := by simp [sgn]
        rw [decide_eq_false hneg, hab, e1]; rfl
  · have e : l = [48] := by simpa using h2
    subst e
    have h0 : valW [48] = 0 := by unfold valW; rw [show cutM [48] = (false, [48]) from rfl]; simp [dval_cons, dval_nil, sgn]
    rw [h0]; unfold wtext; simp [sgnL, dec_zero]
/-- The statement's own look. -/
def plainL (l : List UInt8) : Bool := (cutM l).2.all isDig && (l == [48] || (!(cutM l).2.isEmpty && !zeroL (cutM l).2))
theorem plain_ok (l : List UInt8) : plainL l = okW l := by
  unfold plainL okW allDig
  cases h : (cutM l).2 with
  | nil =>
    have : (l == [48]) = false := by
      simp only [beq_eq_false_iff_ne]; intro e; subst e; simp [cutM] at h
    simp [this]
  | cons c r =>
    generalize (c :: r).all isDig = x
    generalize zeroL (c :: r) = y
    generalize (l == [48]) = z
    cases x <;> cases y <;> cases z <;> rfl
def AnsNumB (w w' : World) (e : Ending) (L : Nat) (X : Int) (c : Bool) : Prop := ∃ m ao n k, e = .returned (.tuple #[.agg #[.bool m, .slice ao n k], .bool c]) ∧ RNum w' (.agg #[.bool m, .slice ao n k]) L X ∧ Below w.heap.size w w'
theorem AnsNumB.of {w w' : World} {e : Ending} {L L' : Nat} {X Y : Int} {c d : Bool} (h : AnsNumB w w' e L X c) (hL : L ≤ L') (he : X = Y) (hc : c = d) : AnsNumB w w' e L' Y d := by
  subst he hc; obtain ⟨m, ao, n, k, h1, h2, h3⟩ := h; exact ⟨m, ao, n, k, h1, h2.more hL, h3⟩
set_option maxRecDepth 100000 in
set_option maxHeartbeats 1000000 in
theorem whole_form (l : List UInt8) (w : World) (hl : l.length ≤ 1000) (hall : allDig (cutM l).2 = false) :
    Calls Tryz.prog 52 #[.string (str l)] w fun e w' => AnsNumB w w' e 0 0 false := by
  have hB_0 := Below.refl w.heap.size w
  have cM := fun w => cutM_any l w
  have hml := cutM_len l
  obtain ⟨m, hm⟩ : ∃ m, (cutM l).1 = m := ⟨_, rfl⟩
  obtain ⟨r, hr⟩ : ∃ r, (cutM l).2 = r := ⟨_, rfl⟩
  rw [hr] at hml
  simp only [hm, hr] at cM
  have cD := fun w => isDigits_any r w (by omega)
  rw [hr] at hall
  simp only [hall] at cD
  have CM := Lib.hid cM; have CD := Lib.hid cD; have HMM := Lib.hid hm; have HRR := Lib.hid hr
  clear cM cD hm
  obtain ⟨w1, hw1, pr_0, hb1, hs1⟩ := new_box w (w.heap.size) rfl [.bool false, .slice none 0 0] 32
  have hb1' : Below w.heap.size w w1 := hb1.mono (by omega)
  clear hb1
  have hB_1 := hB_0.trans (hb1'.mono hB_0.size)
  clear hb1' hB_0
  go_enter Tryz.func52, Tryz.ntmps52
  go_wp2_with fail
  refine (CM.out _).mono ?_
  rintro e w2 ⟨rfl, hb2⟩
  have hB_2 := hB_1.trans (hb2.mono hB_1.size)
  have pr_1 := pr_0.below hb2
  clear hb2 hB_1 pr_0
  go_wp2_with fail
  refine (CD.out _).mono ?_
  rintro e w3 ⟨rfl, hb3⟩
  have hB_3 := hB_2.trans (hb3.mono hB_2.size)
  have pr_2 := pr_1.below hb3
  clear hb3 hB_2 pr_1
  obtain ⟨sf1a, sf1b, sf1c, sf1d⟩ := pr_2.open2
  obtain ⟨sg1a, sg1b⟩ := Box.put2 pr_2 (.bool false)
  go_wp2
  clear sf1a sf1b sf1c sf1d sg1a sg1b
  have hB_4 := below_setAll hB_3 (g := w.heap.size) (by omega) [.bool false, .slice none 0 0]
  have pr_3 := pr_2.setAll [.bool false, .slice none 0 0] rfl
  simp only [setAll, Nat.zero_add] at hB_4 pr_3
  clear hB_3 pr_2
  generalize (World.setCell (World.setCell w3 ⟨w.heap.size, 0, none⟩ (.bool false)) ⟨w.heap.size, 1, none⟩ (.slice none 0 0)) = w4 at *
  go_wp2
  obtain ⟨pre0, pre1, pre2, pre3⟩ := pr_3.open2
  exact bodyPost_ret (v := .tuple #[.agg #[.bool false, .slice none 0 0], .bool false]) (by simp [results, Tryz.results52, go_sem, pre0, pre1]) rfl ⟨_, _, _, _, rfl, rnum_zero _, hB_4⟩
set_option maxRecDepth 100000 in
set_option maxHeartbeats 1000000 in
theorem whole_zero (l : List UInt8) (w : World) (hl : l.length ≤ 1000) (hall : allDig (cutM l).2 = true) (hz0 : zeroL (cutM l).2 = true) (hs : (l == [48]) = false) :
    Calls Tryz.prog 52 #[.string (str l)] w fun e w' => AnsNumB w w' e 0 0 false := by
  have hB_0 := Below.refl w.heap.size w
  have cM := fun w => cutM_any l w
  have hml := cutM_len l
  obtain ⟨m, hm⟩ : ∃ m, (cutM l).1 = m := ⟨_, rfl⟩
  obtain ⟨r, hr⟩ : ∃ r, (cutM l).2 = r := ⟨_, rfl⟩
  rw [hr] at hml
  simp only [hm, hr] at cM
  have cD := fun w => isDigits_any r w (by omega)
  rw [hr] at hall
  simp only [hall] at cD
  have hrp : 0 < r.length := by cases r with
    | nil => simp [allDig] at hall
    | cons => simp
  obtain ⟨c, r', hcr⟩ : ∃ c r', r = c :: r' := by cases r with
    | nil => simp at hrp
    | cons c r' => exact ⟨c, r', rfl⟩
  have HAT : ∀ (r : List UInt8), r = c :: r' → ∀ h : 0 < (str r).size, (str r)[0] = c := by rintro r rfl h; rfl
  have hrz : (str r).size = r.length := str_size r
  have hrpz : 0 < (str r).size := by omega
  have hat0 := HAT r hcr hrpz
  have hrpi : (0 : Int) < (r.length : Int) := by omega
  have hda := allDig_all hall
  rw [hr, hcr] at hz0
  clear HAT
  have hc48 : c = 48 := by simpa [zeroL] using hz0
  have hcb : ((c.toNat : Int) == 48) = true := by rw [hc48]; rfl
  have hs2 : ((str l).toList == [48]) = false := by rw [str_list]; exact hs
  have hs1 : ((str l).toList == (⟨#[48]⟩ : ByteArray).toList) = false := by rw [show (⟨#[48]⟩ : ByteArray) = str [48] from rfl, str_list, str_list]; exact hs
  have HS := Lib.hid hs
  clear hs
  clear hc48 hz0 hcr
  have CM := Lib.hid cM; have CD := Lib.hid cD; have HMM := Lib.hid hm; have HRR := Lib.hid hr
  clear cM cD hm
  obtain ⟨w1, hw1, pr_0, hb1, hs1⟩ := new_box w (w.heap.size) rfl [.bool false, .slice none 0 0] 32
  have hb1' : Below w.heap.size w w1 := hb1.mono (by omega)
  clear hb1
  have hB_1 := hB_0.trans (hb1'.mono hB_0.size)
  clear hb1' hB_0
  go_enter Tryz.func52, Tryz.ntmps52
  go_wp2_with fail
  refine (CM.out _).mono ?_
  rintro e w2 ⟨rfl, hb2⟩
  have hB_2 := hB_1.trans (hb2.mono hB_1.size)
  have pr_1 := pr_0.below hb2
  clear hb2 hB_1 pr_0
  go_wp2_with fail
  refine (CD.out _).mono ?_
  rintro e w3 ⟨rfl, hb3⟩
  have hB_3 := hB_2.trans (hb3.mono hB_2.size)
  have pr_2 := pr_1.below hb3
  clear hb3 hB_2 pr_1
  obtain ⟨sf1a, sf1b, sf1c, sf1d⟩ := pr_2.open2
  obtain ⟨sg1a, sg1b⟩ := Box.put2 pr_2 (.bool false)
  go_wp2
  clear sf1a sf1b sf1c sf1d sg1a sg1b
  have hB_4 := below_setAll hB_3 (g := w.heap.size) (by omega) [.bool false, .slice none 0 0]
  have pr_3 := pr_2.setAll [.bool false, .slice none 0 0] rfl
  simp only [setAll, Nat.zero_add] at hB_4 pr_3
  clear hB_3 pr_2
  generalize (World.setCell (World.setCell w3 ⟨w.heap.size, 0, none⟩ (.bool false)) ⟨w.heap.size, 1, none⟩ (.slice none 0 0)) = w4 at *
  go_wp2
  obtain ⟨pre0, pre1, pre2, pre3⟩ := pr_3.open2
  exact bodyPost_ret (v := .tuple #[.agg #[.bool false, .slice none 0 0], .bool false]) (by simp [results, Tryz.results52, go_sem, pre0, pre1]) rfl ⟨_, _, _, _, rfl, rnum_zero _, hB_4⟩
set_option maxRecDepth 100000 in
set_option maxHeartbeats 1000000 in
theorem whole_plain (l : List UInt8) (w : World) (hl : l.length ≤ 1000) (hall : allDig (cutM l).2 = true) (hz0 : zeroL (cutM l).2 = false) :
    Calls Tryz.prog 52 #[.string (str l)] w fun e w' => AnsNumB w w' e 2000 (valW l) true := by
  have hB_0 := Below.refl w.heap.size w
  have cM := fun w => cutM_any l w
  have hml := cutM_len l
  obtain ⟨m, hm⟩ : ∃ m, (cutM l).1 = m := ⟨_, rfl⟩
  obtain ⟨r, hr⟩ : ∃ r, (cutM l).2 = r := ⟨_, rfl⟩
  rw [hr] at hml
  simp only [hm, hr] at cM
  have cD := fun w => isDigits_any r w (by omega)
  rw [hr] at hall
  simp only [hall] at cD
  have hrp : 0 < r.length := by cases r with
    | nil => simp [allDig] at hall
    | cons => simp
  obtain ⟨c, r', hcr⟩ : ∃ c r', r = c :: r' := by cases r with
    | nil => simp at hrp
    | cons c r' => exact ⟨c, r', rfl⟩
  have HAT : ∀ (r : List UInt8), r = c :: r' → ∀ h : 0 < (str r).size, (str r)[0] = c := by rintro r rfl h; rfl
  have hrz : (str r).size = r.length := str_size r
  have hrpz : 0 < (str r).size := by omega
  have hat0 := HAT r hcr hrpz
  have hrpi : (0 : Int) < (r.length : Int) := by omega
  have hda := allDig_all hall
  rw [hr, hcr] at hz0
  clear HAT
  have hc48 : c ≠ 48 := by simpa [zeroL] using hz0
  have hcb : ((c.toNat : Int) == 48) = false := by simp only [beq_eq_false_iff_ne]; intro h; exact hc48 (byte_ext (by have : (48 : UInt8).toNat = 48 := rfl; omega))
  clear hc48 hz0 hcr
  have CM := Lib.hid cM; have CD := Lib.hid cD; have HMM := Lib.hid hm; have HRR := Lib.hid hr
  clear cM cD hm
  obtain ⟨w1, hw1, pr_0, hb1, hs1⟩ := new_box w (w.heap.size) rfl [.bool false, .slice none 0 0] 32
  have hb1' : Below w.heap.size w w1 := hb1.mono (by omega)
  clear hb1
  have hB_1 := hB_0.trans (hb1'.mono hB_0.size)
  clear hb1' hB_0
  go_enter Tryz.func52, Tryz.ntmps52
  go_wp2_with fail
  refine (CM.out _).mono ?_
  rintro e w2 ⟨rfl, hb2⟩
  have hB_2 := hB_1.trans (hb2.mono hB_1.size)
  have pr_1 := pr_0.below hb2
  clear hb2 hB_1 pr_0
  go_wp2_with fail
  refine (CD.out _).mono ?_
  rintro e w3 ⟨rfl, hb3⟩
  have hB_3 := hB_2.trans (hb3.mono hB_2.size)
  have pr_2 := pr_1.below hb3
  clear hb3 hB_2 pr_1
  go_wp2_with fail
  refine (value_w r _ (by omega) hda).mono ?_
  rintro e w4 ⟨o1, n1, c1, rfl, f1_0, hb4⟩
  have hB_4 := hB_3.trans (hb4.mono hB_3.size)
  have pr_3 := pr_2.below hb4
  clear hb4 hB_3 pr_2
  go_wp2_with fail
  refine (Make_any m _ (2 * r.length) (dval 0 r) _ (by omega) f1_0.mag).mono ?_
  rintro e w5 ⟨m2, o2, n2, c2, rfl, f2_0, hb5⟩
  have hB_5 := hB_4.trans (hb5.mono hB_4.size)
  have pr_4 := pr_3.below hb5
  have f1_1 := f1_0.below hb5
  clear hb5 hB_4 pr_3 f1_0
  clear f1_1
  obtain ⟨sf1a, sf1b, sf1c, sf1d⟩ := pr_4.open2
  obtain ⟨sg1a, sg1b⟩ := Box.put2 pr_4 (.bool m2)
  go_wp2
  clear sf1a sf1b sf1c sf1d sg1a sg1b
  have hB_6 := below_setAll hB_5 (g := w.heap.size) (by omega) [.bool m2, .slice o2 n2 c2]
  have f2_1 := f2_0.setAll pr_4 (noWord2 _ _ _ _) [.bool m2, .slice o2 n2 c2] rfl
  have pr_5 := pr_4.setAll [.bool m2, .slice o2 n2 c2] rfl
  simp only [setAll, Nat.zero_add] at hB_6 pr_5 f2_1
  clear hB_5 f2_0 pr_4
  generalize (World.setCell (World.setCell w5 ⟨w.heap.size, 0, none⟩ (.bool m2)) ⟨w.heap.size, 1, none⟩ (.slice o2 n2 c2)) = w6 at *
  go_wp2
  obtain ⟨pre0, pre1, pre2, pre3⟩ := pr_5.open2
  exact bodyPost_ret (v := .tuple #[.agg #[.bool m2, .slice o2 n2 c2], .bool true]) (by simp [results, Tryz.results52, go_sem, pre0, pre1]) rfl ⟨_, _, _, _, rfl, (f2_1.more (L' := 2000) (by omega)).of (by unfold valW; rw [HMM.out, HRR.out]), hB_6⟩
set_option maxRecDepth 100000 in
set_option maxHeartbeats 1000000 in
theorem whole_nought (l : List UInt8) (w : World) (hl : l.length ≤ 1000) (hall : allDig (cutM l).2 = true) (hz0 : zeroL (cutM l).2 = true) (hs : (l == [48]) = true) :
    Calls Tryz.prog 52 #[.string (str l)] w fun e w' => AnsNumB w w' e 2000 (valW l) true := by
  have hB_0 := Below.refl w.heap.size w
  have cM := fun w => cutM_any l w
  have hml := cutM_len l
  obtain ⟨m, hm⟩ : ∃ m, (cutM l).1 = m := ⟨_, rfl⟩
  obtain ⟨r, hr⟩ : ∃ r, (cutM l).2 = r := ⟨_, rfl⟩
  rw [hr] at hml
  simp only [hm, hr] at cM
  have cD := fun w => isDigits_any r w (by omega)
  rw [hr] at hall
  simp only [hall] at cD
  have hrp : 0 < r.length := by cases r with
    | nil => simp [allDig] at hall
    | cons => simp
  obtain ⟨c, r', hcr⟩ : ∃ c r', r = c :: r' := by cases r with
    | nil => simp at hrp
    | cons c r' => exact ⟨c, r', rfl⟩
  have HAT : ∀ (r : List UInt8), r = c :: r' → ∀ h : 0 < (str r).size, (str r)[0] = c := by rintro r rfl h; rfl
  have hrz : (str r).size = r.length := str_size r
  have hrpz : 0 < (str r).size := by omega
  have hat0 := HAT r hcr hrpz
  have hrpi : (0 : Int) < (r.length : Int) := by omega
  have hda := allDig_all hall
  rw [hr, hcr] at hz0
  clear HAT
  have hc48 : c = 48 := by simpa [zeroL] using hz0
  have hcb : ((c.toNat : Int) == 48) = true := by rw [hc48]; rfl
  have hs2 : ((str l).toList == [48]) = true := by rw [str_list]; exact hs
  have hs1 : ((str l).toList == (⟨#[48]⟩ : ByteArray).toList) = true := by rw [show (⟨#[48]⟩ : ByteArray) = str [48] from rfl, str_list, str_list]; exact hs
  have HS := Lib.hid hs
  clear hs
  clear hc48 hz0 hcr
  have CM := Lib.hid cM; have CD := Lib.hid cD; have HMM := Lib.hid hm; have HRR := Lib.hid hr
  clear cM cD hm
  obtain ⟨w1, hw1, pr_0, hb1, hs1⟩ := new_box w (w.heap.size) rfl [.bool false, .slice none 0 0] 32
  have hb1' : Below w.heap.size w w1 := hb1.mono (by omega)
  clear hb1
  have hB_1 := hB_0.trans (hb1'.mono hB_0.size)
  clear hb1' hB_0
  go_enter Tryz.func52, Tryz.ntmps52
  go_wp2_with fail
  refine (CM.out _).mono ?_
  rintro e w2 ⟨rfl, hb2⟩
  have hB_2 := hB_1.trans (hb2.mono hB_1.size)
  have pr_1 := pr_0.below hb2
  clear hb2 hB_1 pr_0
  go_wp2_with fail
  refine (CD.out _).mono ?_
  rintro e w3 ⟨rfl, hb3⟩
  have hB_3 := hB_2.trans (hb3.mono hB_2.size)
  have pr_2 := pr_1.below hb3
  clear hb3 hB_2 pr_1
  go_wp2_with fail
  refine (value_w r _ (by omega) hda).mono ?_
  rintro e w4 ⟨o1, n1, c1, rfl, f1_0, hb4⟩
  have hB_4 := hB_3.trans (hb4.mono hB_3.size)
  have pr_3 := pr_2.below hb4
  clear hb4 hB_3 pr_2
  go_wp2_with fail
  refine (Make_any m _ (2 * r.length) (dval 0 r) _ (by omega) f1_0.mag).mono ?_
  rintro e w5 ⟨m2, o2, n2, c2, rfl, f2_0, hb5⟩
  have hB_5 := hB_4.trans (hb5.mono hB_4.size)
  have pr_4 := pr_3.below hb5
  have f1_1 := f1_0.below hb5
  clear hb5 hB_4 pr_3 f1_0
  clear f1_1
  obtain ⟨sf1a, sf1b, sf1c, sf1d⟩ := pr_4.open2
  obtain ⟨sg1a, sg1b⟩ := Box.put2 pr_4 (.bool m2)
  go_wp2
  clear sf1a sf1b sf1c sf1d sg1a sg1b
  have hB_6 := below_setAll hB_5 (g := w.heap.size) (by omega) [.bool m2, .slice o2 n2 c2]
  have f2_1 := f2_0.setAll pr_4 (noWord2 _ _ _ _) [.bool m2, .slice o2 n2 c2] rfl
  have pr_5 := pr_4.setAll [.bool m2, .slice o2 n2 c2] rfl
  simp only [setAll, Nat.zero_add] at hB_6 pr_5 f2_1
  clear hB_5 f2_0 pr_4
  generalize (World.setCell (World.setCell w5 ⟨w.heap.size, 0, none⟩ (.bool m2)) ⟨w.heap.size, 1, none⟩ (.slice o2 n2 c2)) = w6 at *
  go_wp2
  obtain ⟨pre0, pre1, pre2, pre3⟩ := pr_5.open2
  exact bodyPost_ret (v := .tuple #[.agg #[.bool m2, .slice o2 n2 c2], .bool true]) (by simp [results, Tryz.results52, go_sem, pre0, pre1]) rfl ⟨_, _, _, _, rfl, (f2_1.more (L' := 2000) (by omega)).of (by unfold valW; rw [HMM.out, HRR.out]), hB_6⟩
theorem whole_any (l : List UInt8) (w : World) (hl : l.length ≤ 1000) : Calls Tryz.prog 52 #[.string (str l)] w fun e w' => AnsNumB w w' e 2000 (if okW l then valW l else 0) (okW l) := by
  cases h1 : allDig (cutM l).2 with
  | false =>
    have h : okW l = false := by unfold okW; rw [h1]; rfl
    exact (whole_form l w hl h1).mono fun e w' g => g.of (by omega) (by rw [h]; rfl) h.symm
  | true =>
    cases h2 : zeroL (cutM l).2 with
    | false =>
      have h : okW l = true := by unfold okW; rw [h1, h2]; rfl
      exact (whole_plain l w hl h1 h2).mono fun e w' g => g.of (by omega) (by rw [h]; rfl) h.symm
    | true =>
      cases h3 : (l == [48]) with
      | false =>
        have h : okW l = false := by unfold okW; rw [h1, h2, h3]; rfl
        exact (whole_zero l w hl h1 h2 h3).mono fun e w' g => g.of (by omega) (by rw [h]; rfl) h.symm
      | true =>
        have h : okW l = true := by unfold okW; rw [h1, h2, h3]; rfl
        exact (whole_nought l w hl h1 h2 h3).mono fun e w' g => g.of (by omega) (by rw [h]; rfl) h.symm
set_option maxRecDepth 100000 in
set_option maxHeartbeats 1000000 in
theorem Whole_long (l : List UInt8) (w : World) (h400 : 400 < l.length) :
    Calls Tryz.prog 21 #[.string (str l)] w fun e w' => AnsNumE w w' e 0 0 2 := by
  have hB_0 := Below.refl w.heap.size w
  have hz : (str l).size = l.length := str_size l
  have h400i : (400 : Int) < (l.length : Int) := by omega
  obtain ⟨w1, hw1, pr_0, hb1, hs1⟩ := new_box w (w.heap.size) rfl [.bool false, .slice none 0 0] 32
  have hb1' : Below w.heap.size w w1 := hb1.mono (by omega)
  clear hb1
  have hB_1 := hB_0.trans (hb1'.mono hB_0.size)
  clear hb1' hB_0
  go_enter Tryz.func21, Tryz.ntmps21
  obtain ⟨sf1a, sf1b, sf1c, sf1d⟩ := pr_0.open2
  obtain ⟨sg1a, sg1b⟩ := Box.put2 pr_0 (.bool false)
  go_wp2
  clear sf1a sf1b sf1c sf1d sg1a sg1b
  have hB_2 := below_setAll hB_1 (g := w.heap.size) (by omega) [.bool false, .slice none 0 0]
  have pr_1 := pr_0.setAll [.bool false, .slice none 0 0] rfl
  simp only [setAll, Nat.zero_add] at hB_2 pr_1
  clear hB_1 pr_0
  generalize (World.setCell (World.setCell w1 ⟨w.heap.size, 0, none⟩ (.bool false)) ⟨w.heap.size, 1, none⟩ (.slice none 0 0)) = w2 at *
  go_wp2
  obtain ⟨pre0, pre1, pre2, pre3⟩ := pr_1.open2
  exact bodyPost_ret (v := .tuple #[.agg #[.bool false, .slice none 0 0], .int .i64 2]) (by simp [results, Tryz.results21, go_sem, pre0, pre1]) rfl ⟨_, _, _, _, rfl, rnum_zero _, hB_2⟩
set_option maxRecDepth 100000 in
set_option maxHeartbeats 1000000 in
theorem Whole_ok (l : List UInt8) (w : World) (h400 : l.length ≤ 400) (hok : okW l = true) :
    Calls Tryz.prog 21 #[.string (str l)] w fun e w' => AnsNumE w w' e 2000 (valW l) 0 := by
  have hB_0 := Below.refl w.heap.size w
  have hz : (str l).size = l.length := str_size l
  have h400i : ¬ (400 : Int) < (l.length : Int) := by omega
  have cW : ∀ w, Calls Tryz.prog 52 #[.string (str l)] w fun e w' => AnsNumB w w' e 2000 (valW l) true := fun w => (whole_any l w (by omega)).mono fun e w' g => g.of (Nat.le_refl _) (by rw [hok]; rfl) hok
  have CW := Lib.hid cW
  clear cW
  obtain ⟨w1, hw1, pr_0, hb1, hs1⟩ := new_box w (w.heap.size) rfl [.bool false, .slice none 0 0] 32
  have hb1' : Below w.heap.size w w1 := hb1.mono (by omega)
  clear hb1
  have hB_1 := hB_0.trans (hb1'.mono hB_0.size)
  clear hb1' hB_0
  go_enter Tryz.func21, Tryz.ntmps21
  go_wp2_with fail
  refine (CW.out _).mono ?_
  rintro e w2 ⟨m1, o1, n1, c1, rfl, f1_0, hb2⟩
  have hB_2 := hB_1.trans (hb2.mono hB_1.size)
  have pr_1 := pr_0.below hb2
  clear hb2 hB_1 pr_0
  have hl1pr := pr_1.lt
  have hl1B := hB_2.size
  obtain ⟨w3, hw3, pa_0, hb3, hs3⟩ := new_box w2 (w2.heap.size) rfl [.bool m1, .slice o1 n1 c1] 32
  have hb3' : Below w2.heap.size w2 w3 := hb3.mono (by omega)
  clear hb3
  have hB_3 := hB_2.trans (hb3'.mono hB_2.size)
  have pr_2 := pr_1.below hb3'
  have f1_1 := f1_0.below hb3'
  clear hb3' hB_2 pr_1 f1_0
  obtain ⟨pae0, pae1, pae2, pae3⟩ := pa_0.open2
  obtain ⟨sf1a, sf1b, sf1c, sf1d⟩ := pr_2.open2
  obtain ⟨sg1a, sg1b⟩ := Box.put2 pr_2 (.bool m1)
  go_wp2
  try rw [hw3]
  clear pae0 pae1 pae2 pae3 sf1a sf1b sf1c sf1d sg1a sg1b
  have hB_4 := below_setAll hB_3 (g := w.heap.size) (by omega) [.bool m1, .slice o1 n1 c1]
  have f1_2 := f1_1.setAll pr_2 (noWord2 _ _ _ _) [.bool m1, .slice o1 n1 c1] rfl
  have pa_1 := pa_0.farAll (g' := w.heap.size) (by omega) [.bool m1, .slice o1 n1 c1]
  have pr_3 := pr_2.setAll [.bool m1, .slice o1 n1 c1] rfl
  simp only [setAll, Nat.zero_add] at hB_4 pr_3 f1_2 pa_1
  clear hB_3 f1_1 pa_0 pr_2
  generalize (World.setCell (World.setCell w3 ⟨w.heap.size, 0, none⟩ (.bool m1)) ⟨w.heap.size, 1, none⟩ (.slice o1 n1 c1)) = w4 at *
  go_wp2
  obtain ⟨pre0, pre1, pre2, pre3⟩ := pr_3.open2
  exact bodyPost_ret (v := .tuple #[.agg #[.bool m1, .slice o1 n1 c1], .int .i64 0]) (by simp [results, Tryz.results21, go_sem, pre0, pre1]) rfl ⟨_, _, _, _, rfl, f1_2, hB_4⟩
set_option maxRecDepth 100000 in
set_option maxHeartbeats 1000000 in
theorem Whole_form (l : List UInt8) (w : World) (h400 : l.length ≤ 400) (hok : okW l = false) :
    Calls Tryz.prog 21 #[.string (str l)] w fun e w' => AnsNumE w w' e 0 0 1 := by
  have hB_0 := Below.refl w.heap.size w
  have hz : (str l).size = l.length := str_size l
  have h400i : ¬ (400 : Int) < (l.length : Int) := by omega
  have cW : ∀ w, Calls Tryz.prog 52 #[.string (str l)] w fun e w' => AnsNumB w w' e 2000 (0) false := fun w => (whole_any l w (by omega)).mono fun e w' g => g.of (Nat.le_refl _) (by rw [hok]; rfl) hok
  have CW := Lib.hid cW
  clear cW
  obtain ⟨w1, hw1, pr_0, hb1, hs1⟩ := new_box w (w.heap.size) rfl [.bool false, .slice none 0 0] 32
  have hb1' : Below w.heap.size w w1 := hb1.mono (by omega)
  clear hb1
  have hB_1 := hB_0.trans (hb1'.mono hB_0.size)
  clear hb1' hB_0
  go_enter Tryz.func21, Tryz.ntmps21
  go_wp2_with fail
  refine (CW.out _).mono ?_
  rintro e w2 ⟨m1, o1, n1, c1, rfl, f1_0, hb2⟩
  have hB_2 := hB_1.trans (hb2.mono hB_1.size)
  have pr_1 := pr_0.below hb2
  clear hb2 hB_1 pr_0
  have hl1pr := pr_1.lt
  have hl1B := hB_2.size
  obtain ⟨w3, hw3, pa_0, hb3, hs3⟩ := new_box w2 (w2.heap.size) rfl [.bool m1, .slice o1 n1 c1] 32
  have hb3' : Below w2.heap.size w2 w3 := hb3.mono (by omega)
  clear hb3
  have hB_3 := hB_2.trans (hb3'.mono hB_2.size)
  have pr_2 := pr_1.below hb3'
  have f1_1 := f1_0.below hb3'
  clear hb3' hB_2 pr_1 f1_0
  obtain ⟨pae0, pae1, pae2, pae3⟩ := pa_0.open2
  obtain ⟨sf1a, sf1b, sf1c, sf1d⟩ := pr_2.open2
  obtain ⟨sg1a, sg1b⟩ := Box.put2 pr_2 (.bool false)
  go_wp2
  try rw [hw3]
  clear pae0 pae1 pae2 pae3 sf1a sf1b sf1c sf1d sg1a sg1b
  have hB_4 := below_setAll hB_3 (g := w.heap.size) (by omega) [.bool false, .slice none 0 0]
  have f1_2 := f1_1.setAll pr_2 (noWord2 _ _ _ _) [.bool false, .slice none 0 0] rfl
  have pa_1 := pa_0.farAll (g' := w.heap.size) (by omega) [.bool false, .slice none 0 0]
  have pr_3 := pr_2.setAll [.bool false, .slice none 0 0] rfl
  simp only [setAll, Nat.zero_add] at hB_4 pr_3 f1_2 pa_1
  clear hB_3 f1_1 pa_0 pr_2
  generalize (World.setCell (World.setCell w3 ⟨w.heap.size, 0, none⟩ (.bool false)) ⟨w.heap.size, 1, none⟩ (.slice none 0 0)) = w4 at *
  go_wp2
  obtain ⟨pre0, pre1, pre2, pre3⟩ := pr_3.open2
  exact bodyPost_ret (v := .tuple #[.agg #[.bool false, .slice none 0 0], .int .i64 1]) (by simp [results, Tryz.results21, go_sem, pre0, pre1]) rfl ⟨_, _, _, _, rfl, rnum_zero _, hB_4⟩
end Go.Proofs.YtbeohedkeklaiaaGreatDoor
/- Print. -/
namespace Go.Proofs.YtbeohedkeklaiaaGreatDoor
open Go.RowKit Go.MagM Go.MagS
theorem _root_.Go.MagM.RF.rnum {w : World} {m : Bool} {ao bo : Option Addr} {n c k d L : Nat} {q : Rat} (h : RF w (.agg #[.bool m, .slice ao n c, .slice bo k d]) L q) : RNum w (.agg #[.bool m, .slice ao n c]) L q.num := by
  obtain ⟨_, _, _, _, _, _, _, e, h1, h2⟩ := h
  simp at e
  obtain ⟨rfl, ⟨rfl, rfl, rfl⟩, rfl, rfl, rfl⟩ := e
  exact h1
theorem _root_.Go.MagM.RF.rden {w : World} {m : Bool} {ao bo : Option Addr} {n c k d L : Nat} {q : Rat} (h : RF w (.agg #[.bool m, .slice ao n c, .slice bo k d]) L q) : RMag w (.slice bo k d) L q.den := by
  obtain ⟨_, _, _, _, _, _, _, e, h1, h2⟩ := h
  simp at e
  obtain ⟨rfl, ⟨rfl, rfl, rfl⟩, rfl, rfl, rfl⟩ := e
  exact h2
theorem fracs_one (w : World) (T : TypeId) {xm : Bool} {xo : Option Addr} {xn xc : Nat} {xp : Option Addr} {xk xd : Nat} {L1 : Nat} {X : Int} {D : Nat} (h1 : FD w (.agg #[.bool xm, .slice xo xn xc, .slice xp xk xd]) L1 X D) :
    Fracs (w.alloc (.cells #[.bool xm, .slice xo xn xc, .slice xp xk xd] T)) (some ⟨w.heap.size, 0, none⟩) [(L1, X, D)] := by
  have hb : Below w.heap.size w (w.alloc (.cells #[.bool xm, .slice xo xn xc, .slice xp xk xd] T)) := (Below.refl _ _).alloc (Nat.le_refl _) _
  intro i L U G hi
  have hi2 : i < 1 := by have := (List.getElem?_eq_some_iff.1 hi).1; simpa using this
  obtain rfl : i = 0 := by omega
  simp at hi; obtain ⟨rfl, rfl, rfl⟩ := hi
  exact ⟨_, 0, xm, xo, xn, xc, xp, xk, xd, rfl, by simp [go_sem], by simp [go_sem], by simp [go_sem], h1.below hb⟩
theorem fSum_one (w : World) (T : TypeId) {xm : Bool} {xo : Option Addr} {xn xc : Nat} {xp : Option Addr} {xk xd : Nat} {L1 : Nat} {p : Rat} (hL1 : L1 ≤ 1000000) (h1 : FQ w (.agg #[.bool xm, .slice xo xn xc, .slice xp xk xd]) L1 p) :
    Calls Tryz.prog 62 #[.slice (some ⟨w.heap.size, 0, none⟩) 1 1] (w.alloc (.cells #[.bool xm, .slice xo xn xc, .slice xp xk xd] T)) fun e w' => AnsF w w' e (L1 + 3) p := by
  obtain ⟨X, D, h1, rfl⟩ := h1
  refine (fSum_go _ 1 1 _ _ rfl (by omega) ?_ (fracs_one w T h1)).mono ?_
  · intro L U G hm; simp at hm; omega
  · rintro e w' h
    obtain ⟨m, ao, n, c, bo, k, d, rfl, h4, h5⟩ := h
    refine ⟨m, ao, n, c, bo, k, d, rfl, (h4.more (by simp [fLen]; omega)).of (by simp [fVal, Rat.zero_add]), ((Below.refl _ _).alloc (Nat.le_refl _) _).trans (h5.mono (by simp))⟩
/-- A rational number's text. -/
def ptext (q : Rat) : List UInt8 := if q.den = 1 then wtext q.num else wtext q.num ++ 47 :: Lib.decDigits q.den
theorem cmpn_one_ne {D : Nat} (h : D ≠ 1) : cmpn D 1 ≠ 0 := by unfold cmpn; split <;> (try split) <;> omega
theorem wtext_len {w : World} {va : Value} {L : Nat} {X : Int} (h : RNum w va L X) : (wtext X).length ≤ 20 * L + 2 := by
  obtain ⟨m, vm, N, rfl, hm, rfl, _⟩ := h
  have h1 := dec_len_words hm.mag.lt
  have h2 : (sgn m N).natAbs = N := by cases m <;> simp [sgn]
  unfold wtext sgnL
  rw [h2]
  split <;> simp <;> omega
set_option maxRecDepth 100000 in
set_option maxHeartbeats 400000 in
theorem Print_one (am : Bool) (ao : Option Addr) (an ac : Nat) (ap : Option Addr) (ak ad : Nat) (L : Nat) (q : Rat) (w : World) (hL : L ≤ 90000) (ht : Tens w) (fa_0 : FQ w (.agg #[.bool am, .slice ao an ac, .slice ap ak ad]) L q) (h1 : q.den = 1) :
    Calls Tryz.prog 28 #[.agg #[.bool am, .slice ao an ac, .slice ap ak ad]] w fun e w' => e = .returned (.string (str (wtext q.num))) ∧ Below w.heap.size w w' := by
  have hB_0 := Below.refl w.heap.size w
  obtain ⟨n, hn⟩ : ∃ n, wtext q.num = n := ⟨_, rfl⟩
  have cG := fun va w h => dDigits_any va (L + 3) q.num w (by omega) h
  simp only [hn] at cG
  have hcc : cmpn q.den 1 = 0 := by rw [h1]; exact cmpn_self _
  have CG := Lib.hid cG; have HN := Lib.hid hn
  clear cG
  rw [hn]
  clear hn
  obtain ⟨w1, hw1, pa_0, hb1, hs1⟩ := new_box w (w.heap.size) rfl [.bool am, .slice ao an ac, .slice ap ak ad] 46
  have hb1' : Below w.heap.size w w1 := hb1.mono (by omega)
  clear hb1
  have hB_1 := hB_0.trans (hb1'.mono hB_0.size)
  have fa_1 := fa_0.below hb1'
  clear hb1' hB_0 fa_0
  go_enter Tryz.func28, Tryz.ntmps28
  obtain ⟨pae0, pae1, pae2, pae3, pae4, pae5⟩ := pa_0.open3
  go_wp2_with fail
  rw [← hs1]
  refine (fSum_one _ _ (by omega) fa_1).mono ?_
  rintro e w2 ⟨m1, o1, n1, c1, p1, k1, d1, rfl, f1_0, hb2⟩
  clear pae0 pae1 pae2 pae3 pae4 pae5
  have hB_2 := hB_1.trans (hb2.mono hB_1.size)
  have fa_2 := fa_1.below hb2
  have pa_1 := pa_0.below hb2
  clear hb2 hB_1 fa_1 pa_0
  clear fa_2
  obtain ⟨sf1a, sf1b, sf1c, sf1d, sf1e, sf1f⟩ := pa_1.open3
  obtain ⟨sg1a, sg1b, sg1c, sg1d⟩ := Box.put3 pa_1 (.bool m1) (.slice o1 n1 c1)
  go_wp2
  clear sf1a sf1b sf1c sf1d sf1e sf1f sg1a sg1b sg1c sg1d
  have hB_3 := below_setAll hB_2 (g := w.heap.size) (by omega) [.bool m1, .slice o1 n1 c1, .slice p1 k1 d1]
  have f1_1 := f1_0.setAll pa_1 (noWord3 _ _ _ _ _ _ _) [.bool m1, .slice o1 n1 c1, .slice p1 k1 d1] rfl
  have pa_2 := pa_1.setAll [.bool m1, .slice o1 n1 c1, .slice p1 k1 d1] rfl
  simp only [setAll, Nat.zero_add, Nat.reduceAdd] at hB_3 pa_2 f1_1
  clear hB_2 f1_0 pa_1
  generalize (World.setCell (World.setCell (World.setCell w2 ⟨w.heap.size, 0, none⟩ (.bool m1)) ⟨w.heap.size, 1, none⟩ (.slice o1 n1 c1)) ⟨w.heap.size, 2, none⟩ (.slice p1 k1 d1)) = w3 at *
  have hB_4 := hB_3.drew'
  have pa_3 := pa_2.drew
  have f1_2 := f1_1.drew
  clear hB_3 pa_2 f1_1
  go_region_held3 (fun w' => w'.cell? ⟨w.heap.size, 0, none⟩ = some (.bool m1) ∧ w'.cell? ⟨w.heap.size, 1, none⟩ = some (.slice o1 n1 c1) ∧ w'.cell? ⟨w.heap.size, 2, none⟩ = some (.slice p1 k1 d1))
    (first | with_reducible exact ⟨pa_3.c0, pa_3.c1, pa_3.c2⟩ | with_reducible exact ⟨pa_4.c0, pa_4.c1, pa_4.c2⟩ | with_reducible exact ⟨pa_5.c0, pa_5.c1, pa_5.c2⟩ | fail)
    (first
      | (go_at_call 49; (with_reducible refine (one_any _).mono ?_); rintro e w4 ⟨o2, n2, c2, rfl, f2_0, hb4⟩; have hB_5 := hB_4.trans (hb4.mono hB_4.size); have pa_4 := pa_3.below hb4; have f1_3 := f1_2.below hb4; clear hb4 hB_4 pa_3 f1_2)
      | (go_at_call 54; (with_reducible refine (mCmp_is _ _ (L + 3) 1 q.den 1 0 _ (by omega) (by omega) f1_3.rden.mag f2_0.mag hcc).mono ?_); rintro e w5 ⟨rfl, hb5⟩; have hB_6 := hB_5.trans (hb5.mono hB_5.size); have pa_5 := pa_4.below hb5; have f1_4 := f1_3.below hb5; have f2_1 := f2_0.below hb5; clear hb5 hB_5 pa_4 f1_3 f2_0))
  clear f2_1
  obtain ⟨pae0, pae1, pae2, pae3, pae4, pae5⟩ := pa_5.open3
  go_wp2_with fail
  refine (CG.out _ _ f1_4.rnum.num (ht.below hB_6)).mono ?_
  rintro e w6 ⟨rfl, hb6⟩
  clear pae0 pae1 pae2 pae3 pae4 pae5
  have hB_7 := hB_6.trans (hb6.mono hB_6.size)
  have pa_6 := pa_5.below hb6
  have f1_5 := f1_4.below hb6
  clear hb6 hB_6 pa_5 f1_4
  go_wp2
  go_ret
  exact ⟨rfl, hB_7⟩
set_option maxRecDepth 100000 in
set_option maxHeartbeats 400000 in
theorem Print_more (am : Bool) (ao : Option Addr) (an ac : Nat) (ap : Option Addr) (ak ad : Nat) (L : Nat) (q : Rat) (w : World) (hL : L ≤ 90000) (ht : Tens w) (fa_0 : FQ w (.agg #[.bool am, .slice ao an ac, .slice ap ak ad]) L q) (h1 : q.den ≠ 1) :
    Calls Tryz.prog 28 #[.agg #[.bool am, .slice ao an ac, .slice ap ak ad]] w fun e w' => e = .returned (.string (str (wtext q.num ++ 47 :: Lib.decDigits q.den))) ∧ Below w.heap.size w w' := by
  have hB_0 := Below.refl w.heap.size w
  obtain ⟨n, hn⟩ : ∃ n, wtext q.num = n := ⟨_, rfl⟩
  have cG := fun va w h => dDigits_any va (L + 3) q.num w (by omega) h
  simp only [hn] at cG
  obtain ⟨cc, hcc⟩ : ∃ cc, cmpn q.den 1 = cc := ⟨_, rfl⟩
  have hcb : (cc == 0) = false := by simp only [beq_eq_false_iff_ne]; rw [← hcc]; exact cmpn_one_ne h1
  obtain ⟨d, hd⟩ : ∃ d, Lib.decDigits q.den = d := ⟨_, rfl⟩
  obtain ⟨nm, hnm⟩ : ∃ nm, n ++ [47] = nm := ⟨_, rfl⟩
  obtain ⟨T, hT⟩ : ∃ T, n ++ 47 :: d = T := ⟨_, rfl⟩
  have cO := fun va w h => digitsOf_named d (L + 3) q.den w hd (va := va) (by omega) h
  rw [hn, hd, hT]
  have CG := Lib.hid cG; have HN := Lib.hid hn
  clear cG
  have CO := Lib.hid cO; have HNM := Lib.hid hnm; have HT := Lib.hid hT; have HD := Lib.hid hd
  clear cO hnm hT hd hn
  obtain ⟨w1, hw1, pa_0, hb1, hs1⟩ := new_box w (w.heap.size) rfl [.bool am, .slice ao an ac, .slice ap ak ad] 46
  have hb1' : Below w.heap.size w w1 := hb1.mono (by omega)
  clear hb1
  have hB_1 := hB_0.trans (hb1'.mono hB_0.size)
  have fa_1 := fa_0.below hb1'
  clear hb1' hB_0 fa_0
  go_enter Tryz.func28, Tryz.ntmps28
  obtain ⟨pae0, pae1, pae2, pae3, pae4, pae5⟩ := pa_0.open3
  go_wp2_with fail
  rw [← hs1]
  refine (fSum_one _ _ (by omega) fa_1).mono ?_
  rintro e w2 ⟨m1, o1, n1, c1, p1, k1, d1, rfl, f1_0, hb2⟩
  clear pae0 pae1 pae2 pae3 pae4 pae5
  have hB_2 := hB_1.trans (hb2.mono hB_1.size)
  have fa_2 := fa_1.below hb2
  have pa_1 := pa_0.below hb2
  clear hb2 hB_1 fa_1 pa_0
  clear fa_2
  have l1 := wtext_len f1_0.rnum
  rw [HN.out] at l1
  have l2 := dec_len_words f1_0.rden.mag.lt
  rw [HD.out] at l2
  obtain ⟨z1, z2, z3, z4⟩ := Cat.of n [47] (by simp; omega)
  rw [HNM.out] at z4
  have l3 : nm.length = n.length + 1 := by rw [← HNM.out]; simp
  obtain ⟨y1, y2, y3, y4⟩ := Cat.of nm d (by omega)
  have e47 : (⟨#[47]⟩ : ByteArray) = str [47] := rfl
  have z5 : str n ++ (⟨#[47]⟩ : ByteArray) = str nm := z4
  have z6 : ¬ (9223372036854775807 < n.length + 1) := by omega
  have y5 : str nm ++ str d = str T := by rw [y4, ← HNM.out, ← HT.out]; simp
  have y6 : ¬ (9223372036854775807 < n.length + 1 + d.length) := by omega
  have y7 : (str nm).size = n.length + 1 := by rw [y1, l3]
  clear y4 z4 e47 l1 l2 y1 z2 z3 y3
  obtain ⟨sf1a, sf1b, sf1c, sf1d, sf1e, sf1f⟩ := pa_1.open3
  obtain ⟨sg1a, sg1b, sg1c, sg1d⟩ := Box.put3 pa_1 (.bool m1) (.slice o1 n1 c1)
  go_wp2
  clear sf1a sf1b sf1c sf1d sf1e sf1f sg1a sg1b sg1c sg1d
  have hB_3 := below_setAll hB_2 (g := w.heap.size) (by omega) [.bool m1, .slice o1 n1 c1, .slice p1 k1 d1]
  have f1_1 := f1_0.setAll pa_1 (noWord3 _ _ _ _ _ _ _) [.bool m1, .slice o1 n1 c1, .slice p1 k1 d1] rfl
  have pa_2 := pa_1.setAll [.bool m1, .slice o1 n1 c1, .slice p1 k1 d1] rfl
  simp only [setAll, Nat.zero_add, Nat.reduceAdd] at hB_3 pa_2 f1_1
  clear hB_2 f1_0 pa_1
  generalize (World.setCell (World.setCell (World.setCell w2 ⟨w.heap.size, 0, none⟩ (.bool m1)) ⟨w.heap.size, 1, none⟩ (.slice o1 n1 c1)) ⟨w.heap.size, 2, none⟩ (.slice p1 k1 d1)) = w3 at *
  have hB_4 := hB_3.drew'
  have pa_3 := pa_2.drew
  have f1_2 := f1_1.drew
  clear hB_3 pa_2 f1_1
  go_region_held3 (fun w' => w'.cell? ⟨w.heap.size, 0, none⟩ = some (.bool m1) ∧ w'.cell? ⟨w.heap.size, 1, none⟩ = some (.slice o1 n1 c1) ∧ w'.cell? ⟨w.heap.size, 2, none⟩ = some (.slice p1 k1 d1))
    (first | with_reducible exact ⟨pa_3.c0, pa_3.c1, pa_3.c2⟩ | with_reducible exact ⟨pa_4.c0, pa_4.c1, pa_4.c2⟩ | with_reducible exact ⟨pa_5.c0, pa_5.c1, pa_5.c2⟩ | fail)
    (first
      | (go_at_call 49; (with_reducible refine (one_any _).mono ?_); rintro e w4 ⟨o2, n2, c2, rfl, f2_0, hb4⟩; have hB_5 := hB_4.trans (hb4.mono hB_4.size); have pa_4 := pa_3.below hb4; have f1_3 := f1_2.below hb4; clear hb4 hB_4 pa_3 f1_2)
      | (go_at_call 54; (with_reducible refine (mCmp_is _ _ (L + 3) 1 q.den 1 cc _ (by omega) (by omega) f1_3.rden.mag f2_0.mag hcc).mono ?_); rintro e w5 ⟨rfl, hb5⟩; have hB_6 := hB_5.trans (hb5.mono hB_5.size); have pa_5 := pa_4.below hb5; have f1_4 := f1_3.below hb5; have f2_1 := f2_0.below hb5; clear hb5 hB_5 pa_4 f1_3 f2_0))
  clear f2_1
  go_wp2
  have hB_7 := hB_6.drew'
  have pa_6 := pa_5.drew
  have f1_5 := f1_4.drew
  clear hB_6 pa_5 f1_4
  go_region_held3 (fun w' => w'.cell? ⟨w.heap.size, 0, none⟩ = some (.bool m1) ∧ w'.cell? ⟨w.heap.size, 1, none⟩ = some (.slice o1 n1 c1) ∧ w'.cell? ⟨w.heap.size, 2, none⟩ = some (.slice p1 k1 d1))
    (first | with_reducible exact ⟨pa_6.c0, pa_6.c1, pa_6.c2⟩ | with_reducible exact ⟨pa_7.c0, pa_7.c1, pa_7.c2⟩ | with_reducible exact ⟨pa_8.c0, pa_8.c1, pa_8.c2⟩ | fail)
    (first
      | (go_at_call 17; (with_reducible refine (CG.out _ _ f1_5.rnum.num (ht.below hB_7)).mono ?_); rintro e w6 ⟨rfl, hb6⟩; have hB_8 := hB_7.trans (hb6.mono hB_7.size); have pa_7 := pa_6.below hb6; have f1_6 := f1_5.below hb6; clear hb6 hB_7 pa_6 f1_5)
      | (go_at_call 46; (with_reducible refine (CO.out _ _ f1_6.rden.mag (ht.below hB_8)).mono ?_); rintro e w7 ⟨rfl, hb7⟩; have hB_9 := hB_8.trans (hb7.mono hB_8.size); have pa_8 := pa_7.below hb7; have f1_7 := f1_6.below hb7; clear hb7 hB_8 pa_7 f1_6))
  go_wp2
  go_ret
  exact ⟨rfl, hB_9⟩
theorem FQ.shape {w : World} {va : Value} {L : Nat} {q : Rat} (h : FQ w va L q) : ∃ m ao n c bo k d, va = .agg #[.bool m, .slice ao n c, .slice bo k d] := by
  obtain ⟨X, D, h1, _⟩ := h
  obtain ⟨m, ao, n, c, bo, k, d, e, _⟩ := h1
  exact ⟨m, ao, n, c, bo, k, d, e⟩
theorem Print_any (va : Value) (L : Nat) (q : Rat) (w : World) (hL : L ≤ 90000) (ha : FQ w va L q) (ht : Tens w) : Calls Tryz.prog 28 #[va] w fun e w' => e = .returned (.string (str (ptext q))) ∧ Below w.heap.size w w' := by
  obtain ⟨m, ao, n, c, bo, k, d, rfl⟩ := FQ.shape ha
  by_cases h1 : q.den = 1
  · have := Print_one m ao n c bo k d L q w hL ht ha h1
    unfold ptext; rw [if_pos h1]; exact this
  · have := Print_more m ao n c bo k d L q w hL ht ha h1
    unfold ptext; rw [if_neg h1]; exact this
end Go.Proofs.YtbeohedkeklaiaaGreatDoor
/- Read. -/
namespace Go.Proofs.YtbeohedkeklaiaaGreatDoor
open Go.RowKit Go.MagM Go.MagS
def rA (l : List UInt8) : List UInt8 := (cutC 47 l).1
def rB (l : List UInt8) : List UInt8 := if (cutC 47 l).2.2 then (cutC 47 l).2.1 else [49]
def readQ (l : List UInt8) : Rat := (valW (rA l) : Rat) / (valW (rB l) : Rat)
def ZF : Value := .agg #[.bool false, .slice none 0 0, .slice none 0 0]
/-- An error, and the zero value. -/
def AnsFE (w w' : World) (e : Ending) (c : Int) : Prop := e = .returned (.tuple #[.agg #[.bool false, .slice none 0 0, .slice none 0 0], .int .i64 c]) ∧ Below w.heap.size w w'
/-- A number, and no error. -/
def AnsFO (w w' : World) (e : Ending) (L : Nat) (q : Rat) : Prop := ∃ m ao n c bo k d, e = .returned (.tuple #[.agg #[.bool m, .slice ao n c, .slice bo k d], .int .i64 0]) ∧ RF w' (.agg #[.bool m, .slice ao n c, .slice bo k d]) L q ∧ Below w.heap.size w w'
theorem whole_is (l : List UInt8) (b : Bool) (X : Int) (w : World) (hl : l.length ≤ 1000) (h1 : okW l = b) (h2 : (if okW l then valW l else 0) = X) : Calls Tryz.prog 52 #[.string (str l)] w fun e w' => AnsNumB w w' e 2000 X b := by
  subst h1; subst h2; exact whole_any l w hl
set_option maxRecDepth 100000 in
set_option maxHeartbeats 1000000 in
theorem Read_long (l : List UInt8) (w : World) (h800 : 800 < l.length) :
    Calls Tryz.prog 27 #[.string (str l)] w fun e w' => AnsFE w w' e 2 := by
  have hB_0 := Below.refl w.heap.size w
  have hz : (str l).size = l.length := str_size l
  have h800i : (800 : Int) < (l.length : Int) := by omega
  obtain ⟨w1, hw1, pr_0, hb1, hs1⟩ := new_box w (w.heap.size) rfl [.bool false, .slice none 0 0, .slice none 0 0] 46
  have hb1' : Below w.heap.size w w1 := hb1.mono (by omega)
  clear hb1
  have hB_1 := hB_0.trans (hb1'.mono hB_0.size)
  clear hb1' hB_0
  go_enter Tryz.func27, Tryz.ntmps27
  obtain ⟨sf1a, sf1b, sf1c, sf1d, sf1e, sf1f⟩ := pr_0.open3
  obtain ⟨sg1a, sg1b, sg1c, sg1d⟩ := Box.put3 pr_0 (.bool false) (.slice none 0 0)
  go_wp2
  clear sf1a sf1b sf1c sf1d sf1e sf1f sg1a sg1b sg1c sg1d
  have hB_2 := below_setAll hB_1 (g := w.heap.size) (by omega) [.bool false, .slice none 0 0, .slice none 0 0]
  have pr_1 := pr_0.setAll [.bool false, .slice none 0 0, .slice none 0 0] rfl
  simp only [setAll, Nat.zero_add, Nat.reduceAdd] at hB_2 pr_1
  clear hB_1 pr_0
  generalize (World.setCell (World.setCell (World.setCell w1 ⟨w.heap.size, 0, none⟩ (.bool false)) ⟨w.heap.size, 1, none⟩ (.slice none 0 0)) ⟨w.heap.size, 2, none⟩ (.slice none 0 0)) = w2 at *
  go_wp2
  obtain ⟨pre0, pre1, pre2, pre3, pre4, pre5⟩ := pr_1.open3
  exact bodyPost_ret (v := .tuple #[.agg #[.bool false, .slice none 0 0, .slice none 0 0], .int .i64 2]) (by simp [results, Tryz.results27, go_sem, pre0, pre1, pre2]) rfl ⟨rfl, hB_2⟩
set_option maxRecDepth 100000 in
set_option maxHeartbeats 600000 in
theorem Read_fa_true (l : List UInt8) (w : World) (ht : Tens w) (h800 : l.length ≤ 800) (hp : (cutC 47 l).2.2 = true) (h1 : okW (rA l) = false) :
    Calls Tryz.prog 27 #[.string (str l)] w fun e w' => AnsFE w w' e 1 := by
  have hB_0 := Below.refl w.heap.size w
  have _ := ht
  have hz : (str l).size = l.length := str_size l
  have h800i : ¬ (800 : Int) < (l.length : Int) := by omega
  have hcl := cutC_len 47 l
  have cC := fun w => cut_any l 47 w (by omega)
  obtain ⟨f, hf⟩ : ∃ f, (cutC 47 l).1 = f := ⟨_, rfl⟩
  obtain ⟨b, hb⟩ : ∃ b, (cutC 47 l).2.1 = b := ⟨_, rfl⟩
  simp only [hf, hb, hp] at cC hcl
  have hA : rA l = f := hf
  have hBB : rB l = b := by unfold rB; rw [hp]; simp [hb]
  obtain ⟨B, hBe⟩ : ∃ B : List UInt8, B = b := ⟨_, rfl⟩
  rw [← hBe] at hBB
  have hBl : B.length ≤ 1000 := by rw [hBe]; omega
  have cA := fun w => whole_is f false ((0 : Int)) w (by omega) (by rw [← hA]; exact h1) (by rw [← hA, h1]; rfl)
  have cB : ∀ w, Calls Tryz.prog 52 #[.string (str b)] w fun e w' => AnsNumB w w' e 2000 ((if okW B then valW B else 0)) (okW B) := by
    intro w
    have := whole_is B (okW B) ((if okW B then valW B else 0)) w hBl (rfl) (rfl)
    rw [hBe] at this
    try rw [hBe]
    exact this
  have CC := Lib.hid cC; have CA := Lib.hid cA; have CB := Lib.hid cB
  clear cC cA cB hf hb hp hA hBB hBe
  obtain ⟨w1, hw1, pr_0, hb1, hs1⟩ := new_box w (w.heap.size) rfl [.bool false, .slice none 0 0, .slice none 0 0] 46
  have hb1' : Below w.heap.size w w1 := hb1.mono (by omega)
  clear hb1
  have hB_1 := hB_0.trans (hb1'.mono hB_0.size)
  clear hb1' hB_0
  go_enter Tryz.func27, Tryz.ntmps27
  go_wp2_with fail
  refine (CC.out _).mono ?_
  rintro e w2 ⟨rfl, hb2⟩
  have hB_2 := hB_1.trans (hb2.mono hB_1.size)
  have pr_1 := pr_0.below hb2
  clear hb2 hB_1 pr_0
  go_wp2_with fail
  refine (CA.out _).mono ?_
  rintro e w3 ⟨m1, o1, n1, c1, rfl, f1_0, hb3⟩
  have hB_3 := hB_2.trans (hb3.mono hB_2.size)
  have pr_2 := pr_1.below hb3
  clear hb3 hB_2 pr_1
  have hl1pr := pr_2.lt
  have hl1B := hB_3.size
  obtain ⟨w4, hw4, pa_0, hb4, hs4⟩ := new_box w3 (w3.heap.size) rfl [.bool m1, .slice o1 n1 c1] 32
  have hb4' : Below w3.heap.size w3 w4 := hb4.mono (by omega)
  clear hb4
  have hB_4 := hB_3.trans (hb4'.mono hB_3.size)
  have pr_3 := pr_2.below hb4'
  have f1_1 := f1_0.below hb4'
  clear hb4' hB_3 pr_2 f1_0
  obtain ⟨pae0, pae1, pae2, pae3⟩ := pa_0.open2
  go_wp2_with fail
  try rw [hw4]
  refine (CB.out _).mono ?_
  rintro e w5 ⟨m2, o2, n2, c2, rfl, f2_0, hb5⟩
  clear pae0 pae1 pae2 pae3
  have hB_5 := hB_4.trans (hb5.mono hB_4.size)
  have pr_4 := pr_3.below hb5
  have f1_2 := f1_1.below hb5
  have pa_1 := pa_0.below hb5
  clear hb5 hB_4 pr_3 f1_1 pa_0
  have hl2pr := pr_4.lt
  have hl2pa := pa_1.lt
  have hl2B := hB_5.size
  obtain ⟨w6, hw6, pb_0, hb6, hs6⟩ := new_box w5 (w5.heap.size) rfl [.bool m2, .slice o2 n2 c2] 32
  have hb6' : Below w5.heap.size w5 w6 := hb6.mono (by omega)
  clear hb6
  have hB_6 := hB_5.trans (hb6'.mono hB_5.size)
  have pr_5 := pr_4.below hb6'
  have f1_3 := f1_2.below hb6'
  have pa_2 := pa_1.below hb6'
  have f2_1 := f2_0.below hb6'
  clear hb6' hB_5 pr_4 f1_2 pa_1 f2_0
  obtain ⟨pae0, pae1, pae2, pae3⟩ := pa_2.open2
  obtain ⟨pbe0, pbe1, pbe2, pbe3⟩ := pb_0.open2
  clear f1_3 f2_1
  obtain ⟨sf1a, sf1b, sf1c, sf1d, sf1e, sf1f⟩ := pr_5.open3
  obtain ⟨sg1a, sg1b, sg1c, sg1d⟩ := Box.put3 pr_5 (.bool false) (.slice none 0 0)
  go_wp2
  try rw [hw6]
  clear pae0 pae1 pae2 pae3 pbe0 pbe1 pbe2 pbe3 sf1a sf1b sf1c sf1d sf1e sf1f sg1a sg1b sg1c sg1d
  have hB_7 := below_setAll hB_6 (g := w.heap.size) (by omega) [.bool false, .slice none 0 0, .slice none 0 0]
  have pa_3 := pa_2.farAll (g' := w.heap.size) (by omega) [.bool false, .slice none 0 0, .slice none 0 0]
  have pb_1 := pb_0.farAll (g' := w.heap.size) (by omega) [.bool false, .slice none 0 0, .slice none 0 0]
  have pr_6 := pr_5.setAll [.bool false, .slice none 0 0, .slice none 0 0] rfl
  simp only [setAll, Nat.zero_add, Nat.reduceAdd] at hB_7 pr_6 pa_3 pb_1
  clear hB_6 pa_2 pb_0 pr_5
  generalize (World.setCell (World.setCell (World.setCell w6 ⟨w.heap.size, 0, none⟩ (.bool false)) ⟨w.heap.size, 1, none⟩ (.slice none 0 0)) ⟨w.heap.size, 2, none⟩ (.slice none 0 0)) = w7 at *
  go_wp2
  obtain ⟨pre0, pre1, pre2, pre3, pre4, pre5⟩ := pr_6.open3
  exact bodyPost_ret (v := .tuple #[.agg #[.bool false, .slice none 0 0, .slice none 0 0], .int .i64 1]) (by simp [results, Tryz.results27, go_sem, pre0, pre1, pre2]) rfl ⟨rfl, hB_7⟩
set_option maxRecDepth 100000 in
set_option maxHeartbeats 600000 in
theorem Read_fb_true (l : List UInt8) (w : World) (ht : Tens w) (h800 : l.length ≤ 800) (hp : (cutC 47 l).2.2 = true) (h1 : okW (rA l) = true) (h2 : okW (rB l) = false) :
    Calls Tryz.prog 27 #[.string (str l)] w fun e w' => AnsFE w w' e 1 := by
  have hB_0 := Below.refl w.heap.size w
  have _ := ht
  have hz : (str l).size = l.length := str_size l
  have h800i : ¬ (800 : Int) < (l.length : Int) := by omega
  have hcl := cutC_len 47 l
  have cC := fun w => cut_any l 47 w (by omega)
  obtain ⟨f, hf⟩ : ∃ f, (cutC 47 l).1 = f := ⟨_, rfl⟩
  obtain ⟨b, hb⟩ : ∃ b, (cutC 47 l).2.1 = b := ⟨_, rfl⟩
  simp only [hf, hb, hp] at cC hcl
  have hA : rA l = f := hf
  have hBB : rB l = b := by unfold rB; rw [hp]; simp [hb]
  obtain ⟨B, hBe⟩ : ∃ B : List UInt8, B = b := ⟨_, rfl⟩
  rw [← hBe] at hBB
  have hBl : B.length ≤ 1000 := by rw [hBe]; omega
  have cA := fun w => whole_is f true (valW f) w (by omega) (by rw [← hA]; exact h1) (by rw [← hA, h1]; rfl)
  have cB : ∀ w, Calls Tryz.prog 52 #[.string (str b)] w fun e w' => AnsNumB w w' e 2000 ((0 : Int)) (false) := by
    intro w
    have := whole_is B (false) ((0 : Int)) w hBl (by rw [← hBB]; exact h2) (by rw [← hBB, h2]; rfl)
    rw [hBe] at this
    try rw [hBe]
    exact this
  have CC := Lib.hid cC; have CA := Lib.hid cA; have CB := Lib.hid cB
  clear cC cA cB hf hb hp hA hBB hBe
  obtain ⟨w1, hw1, pr_0, hb1, hs1⟩ := new_box w (w.heap.size) rfl [.bool false, .slice none 0 0, .slice none 0 0] 46
  have hb1' : Below w.heap.size w w1 := hb1.mono (by omega)
  clear hb1
  have hB_1 := hB_0.trans (hb1'.mono hB_0.size)
  clear hb1' hB_0
  go_enter Tryz.func27, Tryz.ntmps27
  go_wp2_with fail
  refine (CC.out _).mono ?_
  rintro e w2 ⟨rfl, hb2⟩
  have hB_2 := hB_1.trans (hb2.mono hB_1.size)
  have pr_1 := pr_0.below hb2
  clear hb2 hB_1 pr_0
  go_wp2_with fail
  refine (CA.out _).mono ?_
  rintro e w3 ⟨m1, o1, n1, c1, rfl, f1_0, hb3⟩
  have hB_3 := hB_2.trans (hb3.mono hB_2.size)
  have pr_2 := pr_1.below hb3
  clear hb3 hB_2 pr_1
  have hl1pr := pr_2.lt
  have hl1B := hB_3.size
  obtain ⟨w4, hw4, pa_0, hb4, hs4⟩ := new_box w3 (w3.heap.size) rfl [.bool m1, .slice o1 n1 c1] 32
  have hb4' : Below w3.heap.size w3 w4 := hb4.mono (by omega)
  clear hb4
  have hB_4 := hB_3.trans (hb4'.mono hB_3.size)
  have pr_3 := pr_2.below hb4'
  have f1_1 := f1_0.below hb4'
  clear hb4' hB_3 pr_2 f1_0
  obtain ⟨pae0, pae1, pae2, pae3⟩ := pa_0.open2
  go_wp2_with fail
  try rw [hw4]
  refine (CB.out _).mono ?_
  rintro e w5 ⟨m2, o2, n2, c2, rfl, f2_0, hb5⟩
  clear pae0 pae1 pae2 pae3
  have hB_5 := hB_4.trans (hb5.mono hB_4.size)
  have pr_4 := pr_3.below hb5
  have f1_2 := f1_1.below hb5
  have pa_1 := pa_0.below hb5
  clear hb5 hB_4 pr_3 f1_1 pa_0
  have hl2pr := pr_4.lt
  have hl2pa := pa_1.lt
  have hl2B := hB_5.size
  obtain ⟨w6, hw6, pb_0, hb6, hs6⟩ := new_box w5 (w5.heap.size) rfl [.bool m2, .slice o2 n2 c2] 32
  have hb6' : Below w5.heap.size w5 w6 := hb6.mono (by omega)
  clear hb6
  have hB_6 := hB_5.trans (hb6'.mono hB_5.size)
  have pr_5 := pr_4.below hb6'
  have f1_3 := f1_2.below hb6'
  have pa_2 := pa_1.below hb6'
  have f2_1 := f2_0.below hb6'
  clear hb6' hB_5 pr_4 f1_2 pa_1 f2_0
  obtain ⟨pae0, pae1, pae2, pae3⟩ := pa_2.open2
  obtain ⟨pbe0, pbe1, pbe2, pbe3⟩ := pb_0.open2
  clear f1_3 f2_1
  obtain ⟨sf1a, sf1b, sf1c, sf1d, sf1e, sf1f⟩ := pr_5.open3
  obtain ⟨sg1a, sg1b, sg1c, sg1d⟩ := Box.put3 pr_5 (.bool false) (.slice none 0 0)
  go_wp2
  try rw [hw6]
  clear pae0 pae1 pae2 pae3 pbe0 pbe1 pbe2 pbe3 sf1a sf1b sf1c sf1d sf1e sf1f sg1a sg1b sg1c sg1d
  have hB_7 := below_setAll hB_6 (g := w.heap.size) (by omega) [.bool false, .slice none 0 0, .slice none 0 0]
  have pa_3 := pa_2.farAll (g' := w.heap.size) (by omega) [.bool false, .slice none 0 0, .slice none 0 0]
  have pb_1 := pb_0.farAll (g' := w.heap.size) (by omega) [.bool false, .slice none 0 0, .slice none 0 0]
  have pr_6 := pr_5.setAll [.bool false, .slice none 0 0, .slice none 0 0] rfl
  simp only [setAll, Nat.zero_add, Nat.reduceAdd] at hB_7 pr_6 pa_3 pb_1
  clear hB_6 pa_2 pb_0 pr_5
  generalize (World.setCell (World.setCell (World.setCell w6 ⟨w.heap.size, 0, none⟩ (.bool false)) ⟨w.heap.size, 1, none⟩ (.slice none 0 0)) ⟨w.heap.size, 2, none⟩ (.slice none 0 0)) = w7 at *
  go_wp2
  obtain ⟨pre0, pre1, pre2, pre3, pre4, pre5⟩ := pr_6.open3
  exact bodyPost_ret (v := .tuple #[.agg #[.bool false, .slice none 0 0, .slice none 0 0], .int .i64 1]) (by simp [results, Tryz.results27, go_sem, pre0, pre1, pre2]) rfl ⟨rfl, hB_7⟩
set_option maxRecDepth 100000 in
set_option maxHeartbeats 600000 in
theorem Read_fz_true (l : List UInt8) (w : World) (ht : Tens w) (h800 : l.length ≤ 800) (hp : (cutC 47 l).2.2 = true) (h1 : okW (rA l) = true) (h2 : okW (rB l) = true) (h3 : valW (rB l) = 0) :
    Calls Tryz.prog 27 #[.string (str l)] w fun e w' => AnsFE w w' e 1 := by
  have hB_0 := Below.refl w.heap.size w
  have _ := ht
  have hz : (str l).size = l.length := str_size l
  have h800i : ¬ (800 : Int) < (l.length : Int) := by omega
  have hcl := cutC_len 47 l
  have cC := fun w => cut_any l 47 w (by omega)
  obtain ⟨f, hf⟩ : ∃ f, (cutC 47 l).1 = f := ⟨_, rfl⟩
  obtain ⟨b, hb⟩ : ∃ b, (cutC 47 l).2.1 = b := ⟨_, rfl⟩
  simp only [hf, hb, hp] at cC hcl
  have hA : rA l = f := hf
  have hBB : rB l = b := by unfold rB; rw [hp]; simp [hb]
  obtain ⟨B, hBe⟩ : ∃ B : List UInt8, B = b := ⟨_, rfl⟩
  rw [← hBe] at hBB
  have hBl : B.length ≤ 1000 := by rw [hBe]; omega
  have cA := fun w => whole_is f true (valW f) w (by omega) (by rw [← hA]; exact h1) (by rw [← hA, h1]; rfl)
  have cB : ∀ w, Calls Tryz.prog 52 #[.string (str b)] w fun e w' => AnsNumB w w' e 2000 (valW B) (true) := by
    intro w
    have := whole_is B (true) (valW B) w hBl (by rw [← hBB]; exact h2) (by rw [← hBB, h2]; rfl)
    rw [hBe] at this
    try rw [hBe]
    exact this
  have CC := Lib.hid cC; have CA := Lib.hid cA; have CB := Lib.hid cB
  obtain ⟨x, hx⟩ : ∃ x, valW f = x := ⟨_, rfl⟩
  obtain ⟨y, hy⟩ : ∃ y, valW B = y := ⟨_, rfl⟩
  rw [hx] at CA
  rw [hy] at CB
  rw [hBB, hy] at h3
  obtain ⟨s, hs⟩ : ∃ s, y.sign = s := ⟨_, rfl⟩
  clear cC cA cB hf hb hp hA hBB hBe
  clear hx hy
  obtain ⟨w1, hw1, pr_0, hb1, hs1⟩ := new_box w (w.heap.size) rfl [.bool false, .slice none 0 0, .slice none 0 0] 46
  have hb1' : Below w.heap.size w w1 := hb1.mono (by omega)
  clear hb1
  have hB_1 := hB_0.trans (hb1'.mono hB_0.size)
  clear hb1' hB_0
  go_enter Tryz.func27, Tryz.ntmps27
  go_wp2_with fail
  refine (CC.out _).mono ?_
  rintro e w2 ⟨rfl, hb2⟩
  have hB_2 := hB_1.trans (hb2.mono hB_1.size)
  have pr_1 := pr_0.below hb2
  clear hb2 hB_1 pr_0
  go_wp2_with fail
  refine (CA.out _).mono ?_
  rintro e w3 ⟨m1, o1, n1, c1, rfl, f1_0, hb3⟩
  have hB_3 := hB_2.trans (hb3.mono hB_2.size)
  have pr_2 := pr_1.below hb3
  clear hb3 hB_2 pr_1
  have hl1pr := pr_2.lt
  have hl1B := hB_3.size
  obtain ⟨w4, hw4, pa_0, hb4, hs4⟩ := new_box w3 (w3.heap.size) rfl [.bool m1, .slice o1 n1 c1] 32
  have hb4' : Below w3.heap.size w3 w4 := hb4.mono (by omega)
  clear hb4
  have hB_4 := hB_3.trans (hb4'.mono hB_3.size)
  have pr_3 := pr_2.below hb4'
  have f1_1 := f1_0.below hb4'
  clear hb4' hB_3 pr_2 f1_0
  obtain ⟨pae0, pae1, pae2, pae3⟩ := pa_0.open2
  go_wp2_with fail
  try rw [hw4]
  refine (CB.out _).mono ?_
  rintro e w5 ⟨m2, o2, n2, c2, rfl, f2_0, hb5⟩
  clear pae0 pae1 pae2 pae3
  have hB_5 := hB_4.trans (hb5.mono hB_4.size)
  have pr_4 := pr_3.below hb5
  have f1_2 := f1_1.below hb5
  have pa_1 := pa_0.below hb5
  clear hb5 hB_4 pr_3 f1_1 pa_0
  have hl2pr := pr_4.lt
  have hl2pa := pa_1.lt
  have hl2B := hB_5.size
  obtain ⟨w6, hw6, pb_0, hb6, hs6⟩ := new_box w5 (w5.heap.size) rfl [.bool m2, .slice o2 n2 c2] 32
  have hb6' : Below w5.heap.size w5 w6 := hb6.mono (by omega)
  clear hb6
  have hB_6 := hB_5.trans (hb6'.mono hB_5.size)
  have pr_5 := pr_4.below hb6'
  have f1_3 := f1_2.below hb6'
  have pa_2 := pa_1.below hb6'
  have f2_1 := f2_0.below hb6'
  clear hb6' hB_5 pr_4 f1_2 pa_1 f2_0
  obtain ⟨pae0, pae1, pae2, pae3⟩ := pa_2.open2
  obtain ⟨pbe0, pbe1, pbe2, pbe3⟩ := pb_0.open2
  go_wp2_with fail
  try rw [hw6]
  refine (fMake_zero _ _ 2000 2000 x y _ (by omega) (by omega) f1_3.num f2_1.num h3).mono ?_
  rintro e w7 ⟨m3, o3, n3, c3, p3, k3, d3, rfl, f3_0, hb7⟩
  clear pae0 pae1 pae2 pae3 pbe0 pbe1 pbe2 pbe3
  have hB_7 := hB_6.trans (hb7.mono hB_6.size)
  have pr_6 := pr_5.below hb7
  have f1_4 := f1_3.below hb7
  have pa_3 := pa_2.below hb7
  have f2_2 := f2_1.below hb7
  have pb_1 := pb_0.below hb7
  clear hb7 hB_6 pr_5 f1_3 pa_2 f2_1 pb_0
  clear f1_4 f2_2 f3_0
  have hl3pr := pr_6.lt
  have hl3pa := pa_3.lt
  have hl3pb := pb_1.lt
  have hl3B := hB_7.size
  obtain ⟨w8, hw8, pq_0, hb8, hs8⟩ := new_box w7 (w7.heap.size) rfl [.bool m3, .slice o3 n3 c3, .slice p3 k3 d3] 46
  have hb8' : Below w7.heap.size w7 w8 := hb8.mono (by omega)
  clear hb8
  have hB_8 := hB_7.trans (hb8'.mono hB_7.size)
  have pr_7 := pr_6.below hb8'
  have pa_4 := pa_3.below hb8'
  have pb_2 := pb_1.below hb8'
  clear hb8' hB_7 pr_6 pa_3 pb_1
  obtain ⟨pqe0, pqe1, pqe2, pqe3, pqe4, pqe5⟩ := pq_0.open3
  obtain ⟨sf1a, sf1b, sf1c, sf1d, sf1e, sf1f⟩ := pr_7.open3
  obtain ⟨sg1a, sg1b, sg1c, sg1d⟩ := Box.put3 pr_7 (.bool false) (.slice none 0 0)
  go_wp2
  try rw [hw8]
  clear pqe0 pqe1 pqe2 pqe3 pqe4 pqe5 sf1a sf1b sf1c sf1d sf1e sf1f sg1a sg1b sg1c sg1d
  have hB_9 := below_setAll hB_8 (g := w.heap.size) (by omega) [.bool false, .slice none 0 0, .slice none 0 0]
  have pa_5 := pa_4.farAll (g' := w.heap.size) (by omega) [.bool false, .slice none 0 0, .slice none 0 0]
  have pb_3 := pb_2.farAll (g' := w.heap.size) (by omega) [.bool false, .slice none 0 0, .slice none 0 0]
  have pq_1 := pq_0.farAll (g' := w.heap.size) (by omega) [.bool false, .slice none 0 0, .slice none 0 0]
  have pr_8 := pr_7.setAll [.bool false, .slice none 0 0, .slice none 0 0] rfl
  simp only [setAll, Nat.zero_add, Nat.reduceAdd] at hB_9 pr_8 pa_5 pb_3 pq_1
  clear hB_8 pa_4 pb_2 pq_0 pr_7
  generalize (World.setCell (World.setCell (World.setCell w8 ⟨w.heap.size, 0, none⟩ (.bool false)) ⟨w.heap.size, 1, none⟩ (.slice none 0 0)) ⟨w.heap.size, 2, none⟩ (.slice none 0 0)) = w9 at *
  go_wp2
  obtain ⟨pre0, pre1, pre2, pre3, pre4, pre5⟩ := pr_8.open3
  exact bodyPost_ret (v := .tuple #[.agg #[.bool false, .slice none 0 0, .slice none 0 0], .int .i64 1]) (by simp [results, Tryz.results27, go_sem, pre0, pre1, pre2]) rfl ⟨rfl, hB_9⟩
set_option maxRecDepth 100000 in
set_option maxHeartbeats 600000 in
theorem Read_ft_true (l : List UInt8) (w : World) (ht : Tens w) (h800 : l.length ≤ 800) (hp : (cutC 47 l).2.2 = true) (h1 : okW (rA l) = true) (h2 : okW (rB l) = true) (h3 : valW (rB l) ≠ 0) (h4 : ptext (readQ l) ≠ l) :
    Calls Tryz.prog 27 #[.string (str l)] w fun e w' => AnsFE w w' e 1 := by
  have hB_0 := Below.refl w.heap.size w
  have hz : (str l).size = l.length := str_size l
  have h800i : ¬ (800 : Int) < (l.length : Int) := by omega
  have hcl := cutC_len 47 l
  have cC := fun w => cut_any l 47 w (by omega)
  obtain ⟨f, hf⟩ : ∃ f, (cutC 47 l).1 = f := ⟨_, rfl⟩
  obtain ⟨b, hb⟩ : ∃ b, (cutC 47 l).2.1 = b := ⟨_, rfl⟩
  simp only [hf, hb, hp] at cC hcl
  have hA : rA l = f := hf
  have hBB : rB l = b := by unfold rB; rw [hp]; simp [hb]
  obtain ⟨B, hBe⟩ : ∃ B : List UInt8, B = b := ⟨_, rfl⟩
  rw [← hBe] at hBB
  have hBl : B.length ≤ 1000 := by rw [hBe]; omega
  have cA := fun w => whole_is f true (valW f) w (by omega) (by rw [← hA]; exact h1) (by rw [← hA, h1]; rfl)
  have cB : ∀ w, Calls Tryz.prog 52 #[.string (str b)] w fun e w' => AnsNumB w w' e 2000 (valW B) (true) := by
    intro w
    have := whole_is B (true) (valW B) w hBl (by rw [← hBB]; exact h2) (by rw [← hBB, h2]; rfl)
    rw [hBe] at this
    try rw [hBe]
    exact this
  have CC := Lib.hid cC; have CA := Lib.hid cA; have CB := Lib.hid cB
  obtain ⟨x, hx⟩ : ∃ x, valW f = x := ⟨_, rfl⟩
  obtain ⟨y, hy⟩ : ∃ y, valW B = y := ⟨_, rfl⟩
  rw [hx] at CA
  rw [hy] at CB
  rw [hBB, hy] at h3
  have hq : readQ l = (x : Rat) / (y : Rat) := by unfold readQ; rw [hA, hBB, hx, hy]
  rw [hq] at h4
  obtain ⟨q, hqq⟩ : ∃ q, (x : Rat) / (y : Rat) = q := ⟨_, rfl⟩
  rw [hqq] at h4 hq
  obtain ⟨s, hs⟩ : ∃ s, y.sign = s := ⟨_, rfl⟩
  obtain ⟨t, htt⟩ : ∃ t, ptext q = t := ⟨_, rfl⟩
  rw [htt] at h4
  have hne : ((str t).toList == (str l).toList) = false := by rw [str_list, str_list]; exact beq_eq_false_iff_ne.2 h4
  have cT := fun va w hv ht => Print_any va 2000 q w (by omega) hv ht
  simp only [htt] at cT
  have CT := Lib.hid cT
  clear cT htt
  clear cC cA cB hf hb hp hA hBB hBe
  clear hx hy
  obtain ⟨w1, hw1, pr_0, hb1, hs1⟩ := new_box w (w.heap.size) rfl [.bool false, .slice none 0 0, .slice none 0 0] 46
  have hb1' : Below w.heap.size w w1 := hb1.mono (by omega)
  clear hb1
  have hB_1 := hB_0.trans (hb1'.mono hB_0.size)
  clear hb1' hB_0
  go_enter Tryz.func27, Tryz.ntmps27
  go_wp2_with fail
  refine (CC.out _).mono ?_
  rintro e w2 ⟨rfl, hb2⟩
  have hB_2 := hB_1.trans (hb2.mono hB_1.size)
  have pr_1 := pr_0.below hb2
  clear hb2 hB_1 pr_0
  go_wp2_with fail
  refine (CA.out _).mono ?_
  rintro e w3 ⟨m1, o1, n1, c1, rfl, f1_0, hb3⟩
  have hB_3 := hB_2.trans (hb3.mono hB_2.size)
  have pr_2 := pr_1.below hb3
  clear hb3 hB_2 pr_1
  have hl1pr := pr_2.lt
  have hl1B := hB_3.size
  obtain ⟨w4, hw4, pa_0, hb4, hs4⟩ := new_box w3 (w3.heap.size) rfl [.bool m1, .slice o1 n1 c1] 32
  have hb4' : Below w3.heap.size w3 w4 := hb4.mono (by omega)
  clear hb4
  have hB_4 := hB_3.trans (hb4'.mono hB_3.size)
  have pr_3 := pr_2.below hb4'
  have f1_1 := f1_0.below hb4'
  clear hb4' hB_3 pr_2 f1_0
  obtain ⟨pae0, pae1, pae2, pae3⟩ := pa_0.open2
  go_wp2_with fail
  try rw [hw4]
  refine (CB.out _).mono ?_
  rintro e w5 ⟨m2, o2, n2, c2, rfl, f2_0, hb5⟩
  clear pae0 pae1 pae2 pae3
  have hB_5 := hB_4.trans (hb5.mono hB_4.size)
  have pr_4 := pr_3.below hb5
  have f1_2 := f1_1.below hb5
  have pa_1 := pa_0.below hb5
  clear hb5 hB_4 pr_3 f1_1 pa_0
  have hl2pr := pr_4.lt
  have hl2pa := pa_1.lt
  have hl2B := hB_5.size
  obtain ⟨w6, hw6, pb_0, hb6, hs6⟩ := new_box w5 (w5.heap.size) rfl [.bool m2, .slice o2 n2 c2] 32
  have hb6' : Below w5.heap.size w5 w6 := hb6.mono (by omega)
  clear hb6
  have hB_6 := hB_5.trans (hb6'.mono hB_5.size)
  have pr_5 := pr_4.below hb6'
  have f1_3 := f1_2.below hb6'
  have pa_2 := pa_1.below hb6'
  have f2_1 := f2_0.below hb6'
  clear hb6' hB_5 pr_4 f1_2 pa_1 f2_0
  obtain ⟨pae0, pae1, pae2, pae3⟩ := pa_2.open2
  obtain ⟨pbe0, pbe1, pbe2, pbe3⟩ := pb_0.open2
  go_wp2_with fail
  try rw [hw6]
  refine (fMake_some _ _ 2000 2000 x y _ (by omega) (by omega) f1_3.num f2_1.num h3).mono ?_
  rintro e w7 ⟨m3, o3, n3, c3, p3, k3, d3, rfl, f3_0, hb7⟩
  clear pae0 pae1 pae2 pae3 pbe0 pbe1 pbe2 pbe3
  have hB_7 := hB_6.trans (hb7.mono hB_6.size)
  have pr_6 := pr_5.below hb7
  have f1_4 := f1_3.below hb7
  have pa_3 := pa_2.below hb7
  have f2_2 := f2_1.below hb7
  have pb_1 := pb_0.below hb7
  clear hb7 hB_6 pr_5 f1_3 pa_2 f2_1 pb_0
  rw [hqq] at f3_0
  have f3_0' := f3_0.more (L' := 2000) (by omega)
  clear f3_0
  have f3_0 := f3_0'
  clear f3_0'
  clear f1_4 f2_2
  have hl3pr := pr_6.lt
  have hl3pa := pa_3.lt
  have hl3pb := pb_1.lt
  have hl3B := hB_7.size
  obtain ⟨w8, hw8, pq_0, hb8, hs8⟩ := new_box w7 (w7.heap.size) rfl [.bool m3, .slice o3 n3 c3, .slice p3 k3 d3] 46
  have hb8' : Below w7.heap.size w7 w8 := hb8.mono (by omega)
  clear hb8
  have hB_8 := hB_7.trans (hb8'.mono hB_7.size)
  have pr_7 := pr_6.below hb8'
  have pa_4 := pa_3.below hb8'
  have pb_2 := pb_1.below hb8'
  have f3_1 := f3_0.below hb8'
  clear hb8' hB_7 pr_6 pa_3 pb_1 f3_0
  obtain ⟨pqe0, pqe1, pqe2, pqe3, pqe4, pqe5⟩ := pq_0.open3
  go_wp2_with fail
  try rw [hw8]
  refine (CT.out _ _ f3_1.q (ht.below hB_8)).mono ?_
  rintro e w9 ⟨rfl, hb9⟩
  clear pqe0 pqe1 pqe2 pqe3 pqe4 pqe5
  have hB_9 := hB_8.trans (hb9.mono hB_8.size)
  have pr_8 := pr_7.below hb9
  have pa_5 := pa_4.below hb9
  have pb_3 := pb_2.below hb9
  have f3_2 := f3_1.below hb9
  have pq_1 := pq_0.below hb9
  clear hb9 hB_8 pr_7 pa_4 pb_2 f3_1 pq_0
  obtain ⟨pqe0, pqe1, pqe2, pqe3, pqe4, pqe5⟩ := pq_1.open3
  clear f3_2
  obtain ⟨sf1a, sf1b, sf1c, sf1d, sf1e, sf1f⟩ := pr_8.open3
  obtain ⟨sg1a, sg1b, sg1c, sg1d⟩ := Box.put3 pr_8 (.bool false) (.slice none 0 0)
  go_wp2
  clear pqe0 pqe1 pqe2 pqe3 pqe4 pqe5 sf1a sf1b sf1c sf1d sf1e sf1f sg1a sg1b sg1c sg1d
  have hB_10 := below_setAll hB_9 (g := w.heap.size) (by omega) [.bool false, .slice none 0 0, .slice none 0 0]
  have pa_6 := pa_5.farAll (g' := w.heap.size) (by omega) [.bool false, .slice none 0 0, .slice none 0 0]
  have pb_4 := pb_3.farAll (g' := w.heap.size) (by omega) [.bool false, .slice none 0 0, .slice none 0 0]
  have pq_2 := pq_1.farAll (g' := w.heap.size) (by omega) [.bool false, .slice none 0 0, .slice none 0 0]
  have pr_9 := pr_8.setAll [.bool false, .slice none 0 0, .slice none 0 0] rfl
  simp only [setAll, Nat.zero_add, Nat.reduceAdd] at hB_10 pr_9 pa_6 pb_4 pq_2
  clear hB_9 pa_5 pb_3 pq_1 pr_8
  generalize (World.setCell (World.setCell (World.setCell w9 ⟨w.heap.size, 0, none⟩ (.bool false)) ⟨w.heap.size, 1, none⟩ (.slice none 0 0)) ⟨w.heap.size, 2, none⟩ (.slice none 0 0)) = w10 at *
  go_wp2
  obtain ⟨pre0, pre1, pre2, pre3, pre4, pre5⟩ := pr_9.open3
  exact bodyPost_ret (v := .tuple #[.agg #[.bool false, .slice none 0 0, .slice none 0 0], .int .i64 1]) (by simp [results, Tryz.results27, go_sem, pre0, pre1, pre2]) rfl ⟨rfl, hB_10⟩
set_option maxRecDepth 100000 in
set_option maxHeartbeats 600000 in
theorem Read_ok_true (l : List UInt8) (w : World) (ht : Tens w) (h800 : l.length ≤ 800) (hp : (cutC 47 l).2.2 = true) (h1 : okW (rA l) = true) (h2 : okW (rB l) = true) (h3 : valW (rB l) ≠ 0) (h4 : ptext (readQ l) = l) :
    Calls Tryz.prog 27 #[.string (str l)] w fun e w' => AnsFO w w' e 2000 (readQ l) := by
  have hB_0 := Below.refl w.heap.size w
  have hz : (str l).size = l.length := str_size l
  have h800i : ¬ (800 : Int) < (l.length : Int) := by omega
  have hcl := cutC_len 47 l
  have cC := fun w => cut_any l 47 w (by omega)
  obtain ⟨f, hf⟩ : ∃ f, (cutC 47 l).1 = f := ⟨_, rfl⟩
  obtain ⟨b, hb⟩ : ∃ b, (cutC 47 l).2.1 = b := ⟨_, rfl⟩
  simp only [hf, hb, hp] at cC hcl
  have hA : rA l = f := hf
  have hBB : rB l = b := by unfold rB; rw [hp]; simp [hb]
  obtain ⟨B, hBe⟩ : ∃ B : List UInt8, B = b := ⟨_, rfl⟩
  rw [← hBe] at hBB
  have hBl : B.length ≤ 1000 := by rw [hBe]; omega
  have cA := fun w => whole_is f true (valW f) w (by omega) (by rw [← hA]; exact h1) (by rw [← hA, h1]; rfl)
  have cB : ∀ w, Calls Tryz.prog 52 #[.string (str b)] w fun e w' => AnsNumB w w' e 2000 (valW B) (true) := by
    intro w
    have := whole_is B (true) (valW B) w hBl (by rw [← hBB]; exact h2) (by rw [← hBB, h2]; rfl)
    rw [hBe] at this
    try rw [hBe]
    exact this
  have CC := Lib.hid cC; have CA := Lib.hid cA; have CB := Lib.hid cB
  obtain ⟨x, hx⟩ : ∃ x, valW f = x := ⟨_, rfl⟩
  obtain ⟨y, hy⟩ : ∃ y, valW B = y := ⟨_, rfl⟩
  rw [hx] at CA
  rw [hy] at CB
  rw [hBB, hy] at h3
  have hq : readQ l = (x : Rat) / (y : Rat) := by unfold readQ; rw [hA, hBB, hx, hy]
  rw [hq] at h4
  obtain ⟨q, hqq⟩ : ∃ q, (x : Rat) / (y : Rat) = q := ⟨_, rfl⟩
  rw [hqq] at h4 hq
  obtain ⟨s, hs⟩ : ∃ s, y.sign = s := ⟨_, rfl⟩
  have cT := fun va w hv ht => Print_any va 2000 q w (by omega) hv ht
  simp only [h4] at cT
  have CT := Lib.hid cT
  clear cT
  clear cC cA cB hf hb hp hA hBB hBe
  clear hx hy
  obtain ⟨w1, hw1, pr_0, hb1, hs1⟩ := new_box w (w.heap.size) rfl [.bool false, .slice none 0 0, .slice none 0 0] 46
  have hb1' : Below w.heap.size w w1 := hb1.mono (by omega)
  clear hb1
  have hB_1 := hB_0.trans (hb1'.mono hB_0.size)
  clear hb1' hB_0
  go_enter Tryz.func27, Tryz.ntmps27
  go_wp2_with fail
  refine (CC.out _).mono ?_
  rintro e w2 ⟨rfl, hb2⟩
  have hB_2 := hB_1.trans (hb2.mono hB_1.size)
  have pr_1 := pr_0.below hb2
  clear hb2 hB_1 pr_0
  go_wp2_with fail
  refine (CA.out _).mono ?_
  rintro e w3 ⟨m1, o1, n1, c1, rfl, f1_0, hb3⟩
  have hB_3 := hB_2.trans (hb3.mono hB_2.size)
  have pr_2 := pr_1.below hb3
  clear hb3 hB_2 pr_1
  have hl1pr := pr_2.lt
  have hl1B := hB_3.size
  obtain ⟨w4, hw4, pa_0, hb4, hs4⟩ := new_box w3 (w3.heap.size) rfl [.bool m1, .slice o1 n1 c1] 32
  have hb4' : Below w3.heap.size w3 w4 := hb4.mono (by omega)
  clear hb4
  have hB_4 := hB_3.trans (hb4'.mono hB_3.size)
  have pr_3 := pr_2.below hb4'
  have f1_1 := f1_0.below hb4'
  clear hb4' hB_3 pr_2 f1_0
  obtain ⟨pae0, pae1, pae2, pae3⟩ := pa_0.open2
  go_wp2_with fail
  try rw [hw4]
  refine (CB.out _).mono ?_
  rintro e w5 ⟨m2, o2, n2, c2, rfl, f2_0, hb5⟩
  clear pae0 pae1 pae2 pae3
  have hB_5 := hB_4.trans (hb5.mono hB_4.size)
  have pr_4 := pr_3.below hb5
  have f1_2 := f1_1.below hb5
  have pa_1 := pa_0.below hb5
  clear hb5 hB_4 pr_3 f1_1 pa_0
  have hl2pr := pr_4.lt
  have hl2pa := pa_1.lt
  have hl2B := hB_5.size
  obtain ⟨w6, hw6, pb_0, hb6, hs6⟩ := new_box w5 (w5.heap.size) rfl [.bool m2, .slice o2 n2 c2] 32
  have hb6' : Below w5.heap.size w5 w6 := hb6.mono (by omega)
  clear hb6
  have hB_6 := hB_5.trans (hb6'.mono hB_5.size)
  have pr_5 := pr_4.below hb6'
  have f1_3 := f1_2.below hb6'
  have pa_2 := pa_1.below hb6'
  have f2_1 := f2_0.below hb6'
  clear hb6' hB_5 pr_4 f1_2 pa_1 f2_0
  obtain ⟨pae0, pae1, pae2, pae3⟩ := pa_2.open2
  obtain ⟨pbe0, pbe1, pbe2, pbe3⟩ := pb_0.open2
  go_wp2_with fail
  try rw [hw6]
  refine (fMake_some _ _ 2000 2000 x y _ (by omega) (by omega) f1_3.num f2_1.num h3).mono ?_
  rintro e w7 ⟨m3, o3, n3, c3, p3, k3, d3, rfl, f3_0, hb7⟩
  clear pae0 pae1 pae2 pae3 pbe0 pbe1 pbe2 pbe3
  have hB_7 := hB_6.trans (hb7.mono hB_6.size)
  have pr_6 := pr_5.below hb7
  have f1_4 := f1_3.below hb7
  have pa_3 := pa_2.below hb7
  have f2_2 := f2_1.below hb7
  have pb_1 := pb_0.below hb7
  clear hb7 hB_6 pr_5 f1_3 pa_2 f2_1 pb_0
  rw [hqq] at f3_0
  have f3_0' := f3_0.more (L' := 2000) (by omega)
  clear f3_0
  have f3_0 := f3_0'
  clear f3_0'
  clear f1_4 f2_2
  have hl3pr := pr_6.lt
  have hl3pa := pa_3.lt
  have hl3pb := pb_1.lt
  have hl3B := hB_7.size
  obtain ⟨w8, hw8, pq_0, hb8, hs8⟩ := new_box w7 (w7.heap.size) rfl [.bool m3, .slice o3 n3 c3, .slice p3 k3 d3] 46
  have hb8' : Below w7.heap.size w7 w8 := hb8.mono (by omega)
  clear hb8
  have hB_8 := hB_7.trans (hb8'.mono hB_7.size)
  have pr_7 := pr_6.below hb8'
  have pa_4 := pa_3.below hb8'
  have pb_2 := pb_1.below hb8'
  have f3_1 := f3_0.below hb8'
  clear hb8' hB_7 pr_6 pa_3 pb_1 f3_0
  obtain ⟨pqe0, pqe1, pqe2, pqe3, pqe4, pqe5⟩ := pq_0.open3
  go_wp2_with fail
  try rw [hw8]
  refine (CT.out _ _ f3_1.q (ht.below hB_8)).mono ?_
  rintro e w9 ⟨rfl, hb9⟩
  clear pqe0 pqe1 pqe2 pqe3 pqe4 pqe5
  have hB_9 := hB_8.trans (hb9.mono hB_8.size)
  have pr_8 := pr_7.below hb9
  have pa_5 := pa_4.below hb9
  have pb_3 := pb_2.below hb9
  have f3_2 := f3_1.below hb9
  have pq_1 := pq_0.below hb9
  clear hb9 hB_8 pr_7 pa_4 pb_2 f3_1 pq_0
  obtain ⟨pqe0, pqe1, pqe2, pqe3, pqe4, pqe5⟩ := pq_1.open3
  obtain ⟨sf1a, sf1b, sf1c, sf1d, sf1e, sf1f⟩ := pr_8.open3
  obtain ⟨sg1a, sg1b, sg1c, sg1d⟩ := Box.put3 pr_8 (.bool m3) (.slice o3 n3 c3)
  go_wp2
  clear pqe0 pqe1 pqe2 pqe3 pqe4 pqe5 sf1a sf1b sf1c sf1d sf1e sf1f sg1a sg1b sg1c sg1d
  have hB_10 := below_setAll hB_9 (g := w.heap.size) (by omega) [.bool m3, .slice o3 n3 c3, .slice p3 k3 d3]
  have pa_6 := pa_5.farAll (g' := w.heap.size) (by omega) [.bool m3, .slice o3 n3 c3, .slice p3 k3 d3]
  have pb_4 := pb_3.farAll (g' := w.heap.size) (by omega) [.bool m3, .slice o3 n3 c3, .slice p3 k3 d3]
  have f3_3 := f3_2.setAll pr_8 (noWord3 _ _ _ _ _ _ _) [.bool m3, .slice o3 n3 c3, .slice p3 k3 d3] rfl
  have pq_2 := pq_1.farAll (g' := w.heap.size) (by omega) [.bool m3, .slice o3 n3 c3, .slice p3 k3 d3]
  have pr_9 := pr_8.setAll [.bool m3, .slice o3 n3 c3, .slice p3 k3 d3] rfl
  simp only [setAll, Nat.zero_add, Nat.reduceAdd] at hB_10 pr_9 pa_6 pb_4 f3_3 pq_2
  clear hB_9 pa_5 pb_3 f3_2 pq_1 pr_8
  generalize (World.setCell (World.setCell (World.setCell w9 ⟨w.heap.size, 0, none⟩ (.bool m3)) ⟨w.heap.size, 1, none⟩ (.slice o3 n3 c3)) ⟨w.heap.size, 2, none⟩ (.slice p3 k3 d3)) = w10 at *
  go_wp2
  obtain ⟨pre0, pre1, pre2, pre3, pre4, pre5⟩ := pr_9.open3
  exact bodyPost_ret (v := .tuple #[.agg #[.bool m3, .slice o3 n3 c3, .slice p3 k3 d3], .int .i64 0]) (by simp [results, Tryz.results27, go_sem, pre0, pre1, pre2]) rfl ⟨_, _, _, _, _, _, _, rfl, hq ▸ f3_3, hB_10⟩
set_option maxRecDepth 100000 in
set_option maxHeartbeats 600000 in
theorem Read_fa_false (l : List UInt8) (w : World) (ht : Tens w) (h800 : l.length ≤ 800) (hp : (cutC 47 l).2.2 = false) (h1 : okW (rA l) = false) :
    Calls Tryz.prog 27 #[.string (str l)] w fun e w' => AnsFE w w' e 1 := by
  have hB_0 := Below.refl w.heap.size w
  have _ := ht
  have hz : (str l).size = l.length := str_size l
  have h800i : ¬ (800 : Int) < (l.length : Int) := by omega
  have hcl := cutC_len 47 l
  have cC := fun w => cut_any l 47 w (by omega)
  obtain ⟨f, hf⟩ : ∃ f, (cutC 47 l).1 = f := ⟨_, rfl⟩
  obtain ⟨b, hb⟩ : ∃ b, (cutC 47 l).2.1 = b := ⟨_, rfl⟩
  simp only [hf, hb, hp] at cC hcl
  have hA : rA l = f := hf
  have hBB : rB l = [49] := by unfold rB; rw [hp]; rfl
  obtain ⟨B, hBe⟩ : ∃ B : List UInt8, B = [49] := ⟨_, rfl⟩
  rw [← hBe] at hBB
  have hBl : B.length ≤ 1000 := by rw [hBe]; simp
  have cA := fun w => whole_is f false ((0 : Int)) w (by omega) (by rw [← hA]; exact h1) (by rw [← hA, h1]; rfl)
  have cB : ∀ w, Calls Tryz.prog 52 #[.string (⟨#[49]⟩)] w fun e w' => AnsNumB w w' e 2000 ((if okW B then valW B else 0)) (okW B) := by
    intro w
    have := whole_is B (okW B) ((if okW B then valW B else 0)) w hBl (rfl) (rfl)
    rw [hBe] at this
    try rw [hBe]
    exact this
  have CC := Lib.hid cC; have CA := Lib.hid cA; have CB := Lib.hid cB
  clear cC cA cB hf hb hp hA hBB hBe
  obtain ⟨w1, hw1, pr_0, hb1, hs1⟩ := new_box w (w.heap.size) rfl [.bool false, .slice none 0 0, .slice none 0 0] 46
  have hb1' : Below w.heap.size w w1 := hb1.mono (by omega)
  clear hb1
  have hB_1 := hB_0.trans (hb1'.mono hB_0.size)
  clear hb1' hB_0
  go_enter Tryz.func27, Tryz.ntmps27
  go_wp2_with fail
  refine (CC.out _).mono ?_
  rintro e w2 ⟨rfl, hb2⟩
  have hB_2 := hB_1.trans (hb2.mono hB_1.size)
  have pr_1 := pr_0.below hb2
  clear hb2 hB_1 pr_0
  go_wp2_with fail
  refine (CA.out _).mono ?_
  rintro e w3 ⟨m1, o1, n1, c1, rfl, f1_0, hb3⟩
  have hB_3 := hB_2.trans (hb3.mono hB_2.size)
  have pr_2 := pr_1.below hb3
  clear hb3 hB_2 pr_1
  have hl1pr := pr_2.lt
  have hl1B := hB_3.size
  obtain ⟨w4, hw4, pa_0, hb4, hs4⟩ := new_box w3 (w3.heap.size) rfl [.bool m1, .slice o1 n1 c1] 32
  have hb4' : Below w3.heap.size w3 w4 := hb4.mono (by omega)
  clear hb4
  have hB_4 := hB_3.trans (hb4'.mono hB_3.size)
  have pr_3 := pr_2.below hb4'
  have f1_1 := f1_0.below hb4'
  clear hb4' hB_3 pr_2 f1_0
  obtain ⟨pae0, pae1, pae2, pae3⟩ := pa_0.open2
  go_wp2_with fail
  try rw [hw4]
  refine (CB.out _).mono ?_
  rintro e w5 ⟨m2, o2, n2, c2, rfl, f2_0, hb5⟩
  clear pae0 pae1 pae2 pae3
  have hB_5 := hB_4.trans (hb5.mono hB_4.size)
  have pr_4 := pr_3.below hb5
  have f1_2 := f1_1.below hb5
  have pa_1 := pa_0.below hb5
  clear hb5 hB_4 pr_3 f1_1 pa_0
  have hl2pr := pr_4.lt
  have hl2pa := pa_1.lt
  have hl2B := hB_5.size
  obtain ⟨w6, hw6, pb_0, hb6, hs6⟩ := new_box w5 (w5.heap.size) rfl [.bool m2, .slice o2 n2 c2] 32
  have hb6' : Below w5.heap.size w5 w6 := hb6.mono (by omega)
  clear hb6
  have hB_6 := hB_5.trans (hb6'.mono hB_5.size)
  have pr_5 := pr_4.below hb6'
  have f1_3 := f1_2.below hb6'
  have pa_2 := pa_1.below hb6'
  have f2_1 := f2_0.below hb6'
  clear hb6' hB_5 pr_4 f1_2 pa_1 f2_0
  obtain ⟨pae0, pae1, pae2, pae3⟩ := pa_2.open2
  obtain ⟨pbe0, pbe1, pbe2, pbe3⟩ := pb_0.open2
  clear f1_3 f2_1
  obtain ⟨sf1a, sf1b, sf1c, sf1d, sf1e, sf1f⟩ := pr_5.open3
  obtain ⟨sg1a, sg1b, sg1c, sg1d⟩ := Box.put3 pr_5 (.bool false) (.slice none 0 0)
  go_wp2
  try rw [hw6]
  clear pae0 pae1 pae2 pae3 pbe0 pbe1 pbe2 pbe3 sf1a sf1b sf1c sf1d sf1e sf1f sg1a sg1b sg1c sg1d
  have hB_7 := below_setAll hB_6 (g := w.heap.size) (by omega) [.bool false, .slice none 0 0, .slice none 0 0]
  have pa_3 := pa_2.farAll (g' := w.heap.size) (by omega) [.bool false, .slice none 0 0, .slice none 0 0]
  have pb_1 := pb_0.farAll (g' := w.heap.size) (by omega) [.bool false, .slice none 0 0, .slice none 0 0]
  have pr_6 := pr_5.setAll [.bool false, .slice none 0 0, .slice none 0 0] rfl
  simp only [setAll, Nat.zero_add, Nat.reduceAdd] at hB_7 pr_6 pa_3 pb_1
  clear hB_6 pa_2 pb_0 pr_5
  generalize (World.setCell (World.setCell (World.setCell w6 ⟨w.heap.size, 0, none⟩ (.bool false)) ⟨w.heap.size, 1, none⟩ (.slice none 0 0)) ⟨w.heap.size, 2, none⟩ (.slice none 0 0)) = w7 at *
  go_wp2
  obtain ⟨pre0, pre1, pre2, pre3, pre4, pre5⟩ := pr_6.open3
  exact bodyPost_ret (v := .tuple #[.agg #[.bool false, .slice none 0 0, .slice none 0 0], .int .i64 1]) (by simp [results, Tryz.results27, go_sem, pre0, pre1, pre2]) rfl ⟨rfl, hB_7⟩
set_option maxRecDepth 100000 in
set_option maxHeartbeats 600000 in
theorem Read_fb_false (l : List UInt8) (w : World) (ht : Tens w) (h800 : l.length ≤ 800) (hp : (cutC 47 l).2.2 = false) (h1 : okW (rA l) = true) (h2 : okW (rB l) = false) :
    Calls Tryz.prog 27 #[.string (str l)] w fun e w' => AnsFE w w' e 1 := by
  have hB_0 := Below.refl w.heap.size w
  have _ := ht
  have hz : (str l).size = l.length := str_size l
  have h800i : ¬ (800 : Int) < (l.length : Int) := by omega
  have hcl := cutC_len 47 l
  have cC := fun w => cut_any l 47 w (by omega)
  obtain ⟨f, hf⟩ : ∃ f, (cutC 47 l).1 = f := ⟨_, rfl⟩
  obtain ⟨b, hb⟩ : ∃ b, (cutC 47 l).2.1 = b := ⟨_, rfl⟩
  simp only [hf, hb, hp] at cC hcl
  have hA : rA l = f := hf
  have hBB : rB l = [49] := by unfold rB; rw [hp]; rfl
  obtain ⟨B, hBe⟩ : ∃ B : List UInt8, B = [49] := ⟨_, rfl⟩
  rw [← hBe] at hBB
  have hBl : B.length ≤ 1000 := by rw [hBe]; simp
  have cA := fun w => whole_is f true (valW f) w (by omega) (by rw [← hA]; exact h1) (by rw [← hA, h1]; rfl)
  have cB : ∀ w, Calls Tryz.prog 52 #[.string (⟨#[49]⟩)] w fun e w' => AnsNumB w w' e 2000 ((0 : Int)) (false) := by
    intro w
    have := whole_is B (false) ((0 : Int)) w hBl (by rw [← hBB]; exact h2) (by rw [← hBB, h2]; rfl)
    rw [hBe] at this
    try rw [hBe]
    exact this
  have CC := Lib.hid cC; have CA := Lib.hid cA; have CB := Lib.hid cB
  clear cC cA cB hf hb hp hA hBB hBe
  obtain ⟨w1, hw1, pr_0, hb1, hs1⟩ := new_box w (w.heap.size) rfl [.bool false, .slice none 0 0, .slice none 0 0] 46
  have hb1' : Below w.heap.size w w1 := hb1.mono (by omega)
  clear hb1
  have hB_1 := hB_0.trans (hb1'.mono hB_0.size)
  clear hb1' hB_0
  go_enter Tryz.func27, Tryz.ntmps27
  go_wp2_with fail
  refine (CC.out _).mono ?_
  rintro e w2 ⟨rfl, hb2⟩
  have hB_2 := hB_1.trans (hb2.mono hB_1.size)
  have pr_1 := pr_0.below hb2
  clear hb2 hB_1 pr_0
  go_wp2_with fail
  refine (CA.out _).mono ?_
  rintro e w3 ⟨m1, o1, n1, c1, rfl, f1_0, hb3⟩
  have hB_3 := hB_2.trans (hb3.mono hB_2.size)
  have pr_2 := pr_1.below hb3
  clear hb3 hB_2 pr_1
  have hl1pr := pr_2.lt
  have hl1B := hB_3.size
  obtain ⟨w4, hw4, pa_0, hb4, hs4⟩ := new_box w3 (w3.heap.size) rfl [.bool m1, .slice o1 n1 c1] 32
  have hb4' : Below w3.heap.size w3 w4 := hb4.mono (by omega)
  clear hb4
  have hB_4 := hB_3.trans (hb4'.mono hB_3.size)
  have pr_3 := pr_2.below hb4'
  have f1_1 := f1_0.below hb4'
  clear hb4' hB_3 pr_2 f1_0
  obtain ⟨pae0, pae1, pae2, pae3⟩ := pa_0.open2
  go_wp2_with fail
  try rw [hw4]
  refine (CB.out _).mono ?_
  rintro e w5 ⟨m2, o2, n2, c2, rfl, f2_0, hb5⟩
  clear pae0 pae1 pae2 pae3
  have hB_5 := hB_4.trans (hb5.mono hB_4.size)
  have pr_4 := pr_3.below hb5
  have f1_2 := f1_1.below hb5
  have pa_1 := pa_0.below hb5
  clear hb5 hB_4 pr_3 f1_1 pa_0
  have hl2pr := pr_4.lt
  have hl2pa := pa_1.lt
  have hl2B := hB_5.size
  obtain ⟨w6, hw6, pb_0, hb6, hs6⟩ := new_box w5 (w5.heap.size) rfl [.bool m2, .slice o2 n2 c2] 32
  have hb6' : Below w5.heap.size w5 w6 := hb6.mono (by omega)
  clear hb6
  have hB_6 := hB_5.trans (hb6'.mono hB_5.size)
  have pr_5 := pr_4.below hb6'
  have f1_3 := f1_2.below hb6'
  have pa_2 := pa_1.below hb6'
  have f2_1 := f2_0.below hb6'
  clear hb6' hB_5 pr_4 f1_2 pa_1 f2_0
  obtain ⟨pae0, pae1, pae2, pae3⟩ := pa_2.open2
  obtain ⟨pbe0, pbe1, pbe2, pbe3⟩ := pb_0.open2
  clear f1_3 f2_1
  obtain ⟨sf1a, sf1b, sf1c, sf1d, sf1e, sf1f⟩ := pr_5.open3
  obtain ⟨sg1a, sg1b, sg1c, sg1d⟩ := Box.put3 pr_5 (.bool false) (.slice none 0 0)
  go_wp2
  try rw [hw6]
  clear pae0 pae1 pae2 pae3 pbe0 pbe1 pbe2 pbe3 sf1a sf1b sf1c sf1d sf1e sf1f sg1a sg1b sg1c sg1d
  have hB_7 := below_setAll hB_6 (g := w.heap.size) (by omega) [.bool false, .slice none 0 0, .slice none 0 0]
  have pa_3 := pa_2.farAll (g' := w.heap.size) (by omega) [.bool false, .slice none 0 0, .slice none 0 0]
  have pb_1 := pb_0.farAll (g' := w.heap.size) (by omega) [.bool false, .slice none 0 0, .slice none 0 0]
  have pr_6 := pr_5.setAll [.bool false, .slice none 0 0, .slice none 0 0] rfl
  simp only [setAll, Nat.zero_add, Nat.reduceAdd] at hB_7 pr_6 pa_3 pb_1
  clear hB_6 pa_2 pb_0 pr_5
  generalize (World.setCell (World.setCell (World.setCell w6 ⟨w.heap.size, 0, none⟩ (.bool false)) ⟨w.heap.size, 1, none⟩ (.slice none 0 0)) ⟨w.heap.size, 2, none⟩ (.slice none 0 0)) = w7 at *
  go_wp2
  obtain ⟨pre0, pre1, pre2, pre3, pre4, pre5⟩ := pr_6.open3
  exact bodyPost_ret (v := .tuple #[.agg #[.bool false, .slice none 0 0, .slice none 0 0], .int .i64 1]) (by simp [results, Tryz.results27, go_sem, pre0, pre1, pre2]) rfl ⟨rfl, hB_7⟩
set_option maxRecDepth 100000 in
set_option maxHeartbeats 600000 in
theorem Read_fz_false (l : List UInt8) (w : World) (ht : Tens w) (h800 : l.length ≤ 800) (hp : (cutC 47 l).2.2 = false) (h1 : okW (rA l) = true) (h2 : okW (rB l) = true) (h3 : valW (rB l) = 0) :
    Calls Tryz.prog 27 #[.string (str l)] w fun e w' => AnsFE w w' e 1 := by
  have hB_0 := Below.refl w.heap.size w
  have _ := ht
  have hz : (str l).size = l.length := str_size l
  have h800i : ¬ (800 : Int) < (l.length : Int) := by omega
  have hcl := cutC_len 47 l
  have cC := fun w => cut_any l 47 w (by omega)
  obtain ⟨f, hf⟩ : ∃ f, (cutC 47 l).1 = f := ⟨_, rfl⟩
  obtain ⟨b, hb⟩ : ∃ b, (cutC 47 l).2.1 = b := ⟨_, rfl⟩
  simp only [hf, hb, hp] at cC hcl
  have hA : rA l = f := hf
  have hBB : rB l = [49] := by unfold rB; rw [hp]; rfl
  obtain ⟨B, hBe⟩ : ∃ B : List UInt8, B = [49] := ⟨_, rfl⟩
  rw [← hBe] at hBB
  have hBl : B.length ≤ 1000 := by rw [hBe]; simp
  have cA := fun w => whole_is f true (valW f) w (by omega) (by rw [← hA]; exact h1) (by rw [← hA, h1]; rfl)
  have cB : ∀ w, Calls Tryz.prog 52 #[.string (⟨#[49]⟩)] w fun e w' => AnsNumB w w' e 2000 (valW B) (true) := by
    intro w
    have := whole_is B (true) (valW B) w hBl (by rw [← hBB]; exact h2) (by rw [← hBB, h2]; rfl)
    rw [hBe] at this
    try rw [hBe]
    exact this
  have CC := Lib.hid cC; have CA := Lib.hid cA; have CB := Lib.hid cB
  obtain ⟨x, hx⟩ : ∃ x, valW f = x := ⟨_, rfl⟩
  obtain ⟨y, hy⟩ : ∃ y, valW B = y := ⟨_, rfl⟩
  rw [hx] at CA
  rw [hy] at CB
  rw [hBB, hy] at h3
  obtain ⟨s, hs⟩ : ∃ s, y.sign = s := ⟨_, rfl⟩
  clear cC cA cB hf hb hp hA hBB hBe
  clear hx hy
  obtain ⟨w1, hw1, pr_0, hb1, hs1⟩ := new_box w (w.heap.size) rfl [.bool false, .slice none 0 0, .slice none 0 0] 46
  have hb1' : Below w.heap.size w w1 := hb1.mono (by omega)
  clear hb1
  have hB_1 := hB_0.trans (hb1'.mono hB_0.size)
  clear hb1' hB_0
  go_enter Tryz.func27, Tryz.ntmps27
  go_wp2_with fail
  refine (CC.out _).mono ?_
  rintro e w2 ⟨rfl, hb2⟩
  have hB_2 := hB_1.trans (hb2.mono hB_1.size)
  have pr_1 := pr_0.below hb2
  clear hb2 hB_1 pr_0
  go_wp2_with fail
  refine (CA.out _).mono ?_
  rintro e w3 ⟨m1, o1, n1, c1, rfl, f1_0, hb3⟩
  have hB_3 := hB_2.trans (hb3.mono hB_2.size)
  have pr_2 := pr_1.below hb3
  clear hb3 hB_2 pr_1
  have hl1pr := pr_2.lt
  have hl1B := hB_3.size
  obtain ⟨w4, hw4, pa_0, hb4, hs4⟩ := new_box w3 (w3.heap.size) rfl [.bool m1, .slice o1 n1 c1] 32
  have hb4' : Below w3.heap.size w3 w4 := hb4.mono (by omega)
  clear hb4
  have hB_4 := hB_3.trans (hb4'.mono hB_3.size)
  have pr_3 := pr_2.below hb4'
  have f1_1 := f1_0.below hb4'
  clear hb4' hB_3 pr_2 f1_0
  obtain ⟨pae0, pae1, pae2, pae3⟩ := pa_0.open2
  go_wp2_with fail
  try rw [hw4]
  refine (CB.out _).mono ?_
  rintro e w5 ⟨m2, o2, n2, c2, rfl, f2_0, hb5⟩
  clear pae0 pae1 pae2 pae3
  have hB_5 := hB_4.trans (hb5.mono hB_4.size)
  have pr_4 := pr_3.below hb5
  have f1_2 := f1_1.below hb5
  have pa_1 := pa_0.below hb5
  clear hb5 hB_4 pr_3 f1_1 pa_0
  have hl2pr := pr_4.lt
  have hl2pa := pa_1.lt
  have hl2B := hB_5.size
  obtain ⟨w6, hw6, pb_0, hb6, hs6⟩ := new_box w5 (w5.heap.size) rfl [.bool m2, .slice o2 n2 c2] 32
  have hb6' : Below w5.heap.size w5 w6 := hb6.mono (by omega)
  clear hb6
  have hB_6 := hB_5.trans (hb6'.mono hB_5.size)
  have pr_5 := pr_4.below hb6'
  have f1_3 := f1_2.below hb6'
  have pa_2 := pa_1.below hb6'
  have f2_1 := f2_0.below hb6'
  clear hb6' hB_5 pr_4 f1_2 pa_1 f2_0
  obtain ⟨pae0, pae1, pae2, pae3⟩ := pa_2.open2
  obtain ⟨pbe0, pbe1, pbe2, pbe3⟩ := pb_0.open2
  go_wp2_with fail
  try rw [hw6]
  refine (fMake_zero _ _ 2000 2000 x y _ (by omega) (by omega) f1_3.num f2_1.num h3).mono ?_
  rintro e w7 ⟨m3, o3, n3, c3, p3, k3, d3, rfl, f3_0, hb7⟩
  clear pae0 pae1 pae2 pae3 pbe0 pbe1 pbe2 pbe3
  have hB_7 := hB_6.trans (hb7.mono hB_6.size)
  have pr_6 := pr_5.below hb7
  have f1_4 := f1_3.below hb7
  have pa_3 := pa_2.below hb7
  have f2_2 := f2_1.below hb7
  have pb_1 := pb_0.below hb7
  clear hb7 hB_6 pr_5 f1_3 pa_2 f2_1 pb_0
  clear f1_4 f2_2 f3_0
  have hl3pr := pr_6.lt
  have hl3pa := pa_3.lt
  have hl3pb := pb_1.lt
  have hl3B := hB_7.size
  obtain ⟨w8, hw8, pq_0, hb8, hs8⟩ := new_box w7 (w7.heap.size) rfl [.bool m3, .slice o3 n3 c3, .slice p3 k3 d3] 46
  have hb8' : Below w7.heap.size w7 w8 := hb8.mono (by omega)
  clear hb8
  have hB_8 := hB_7.trans (hb8'.mono hB_7.size)
  have pr_7 := pr_6.below hb8'
  have pa_4 := pa_3.below hb8'
  have pb_2 := pb_1.below hb8'
  clear hb8' hB_7 pr_6 pa_3 pb_1
  obtain ⟨pqe0, pqe1, pqe2, pqe3, pqe4, pqe5⟩ := pq_0.open3
  obtain ⟨sf1a, sf1b, sf1c, sf1d, sf1e, sf1f⟩ := pr_7.open3
  obtain ⟨sg1a, sg1b, sg1c, sg1d⟩ := Box.put3 pr_7 (.bool false) (.slice none 0 0)
  go_wp2
  try rw [hw8]
  clear pqe0 pqe1 pqe2 pqe3 pqe4 pqe5 sf1a sf1b sf1c sf1d sf1e sf1f sg1a sg1b sg1c sg1d
  have hB_9 := below_setAll hB_8 (g := w.heap.size) (by omega) [.bool false, .slice none 0 0, .slice none 0 0]
  have pa_5 := pa_4.farAll (g' := w.heap.size) (by omega) [.bool false, .slice none 0 0, .slice none 0 0]
  have pb_3 := pb_2.farAll (g' := w.heap.size) (by omega) [.bool false, .slice none 0 0, .slice none 0 0]
  have pq_1 := pq_0.farAll (g' := w.heap.size) (by omega) [.bool false, .slice none 0 0, .slice none 0 0]
  have pr_8 := pr_7.setAll [.bool false, .slice none 0 0, .slice none 0 0] rfl
  simp only [setAll, Nat.zero_add, Nat.reduceAdd] at hB_9 pr_8 pa_5 pb_3 pq_1
  clear hB_8 pa_4 pb_2 pq_0 pr_7
  generalize (World.setCell (World.setCell (World.setCell w8 ⟨w.heap.size, 0, none⟩ (.bool false)) ⟨w.heap.size, 1, none⟩ (.slice none 0 0)) ⟨w.heap.size, 2, none⟩ (.slice none 0 0)) = w9 at *
  go_wp2
  obtain ⟨pre0, pre1, pre2, pre3, pre4, pre5⟩ := pr_8.open3
  exact bodyPost_ret (v := .tuple #[.agg #[.bool false, .slice none 0 0, .slice none 0 0], .int .i64 1]) (by simp [results, Tryz.results27, go_sem, pre0, pre1, pre2]) rfl ⟨rfl, hB_9⟩
set_option maxRecDepth 100000 in
set_option maxHeartbeats 600000 in
theorem Read_ft_false (l : List UInt8) (w : World) (ht : Tens w) (h800 : l.length ≤ 800) (hp : (cutC 47 l).2.2 = false) (h1 : okW (rA l) = true) (h2 : okW (rB l) = true) (h3 : valW (rB l) ≠ 0) (h4 : ptext (readQ l) ≠ l) :
    Calls Tryz.prog 27 #[.string (str l)] w fun e w' => AnsFE w w' e 1 := by
  have hB_0 := Below.refl w.heap.size w
  have hz : (str l).size = l.length := str_size l
  have h800i : ¬ (800 : Int) < (l.length : Int) := by omega
  have hcl := cutC_len 47 l
  have cC := fun w => cut_any l 47 w (by omega)
  obtain ⟨f, hf⟩ : ∃ f, (cutC 47 l).1 = f := ⟨_, rfl⟩
  obtain ⟨b, hb⟩ : ∃ b, (cutC 47 l).2.1 = b := ⟨_, rfl⟩
  simp only [hf, hb, hp] at cC hcl
  have hA : rA l = f := hf
  have hBB : rB l = [49] := by unfold rB; rw [hp]; rfl
  obtain ⟨B, hBe⟩ : ∃ B : List UInt8, B = [49] := ⟨_, rfl⟩
  rw [← hBe] at hBB
  have hBl : B.length ≤ 1000 := by rw [hBe]; simp
  have cA := fun w => whole_is f true (valW f) w (by omega) (by rw [← hA]; exact h1) (by rw [← hA, h1]; rfl)
  have cB : ∀ w, Calls Tryz.prog 52 #[.string (⟨#[49]⟩)] w fun e w' => AnsNumB w w' e 2000 (valW B) (true) := by
    intro w
    have := whole_is B (true) (valW B) w hBl (by rw [← hBB]; exact h2) (by rw [← hBB, h2]; rfl)
    rw [hBe] at this
    try rw [hBe]
    exact this
  have CC := Lib.hid cC; have CA := Lib.hid cA; have CB := Lib.hid cB
  obtain ⟨x, hx⟩ : ∃ x, valW f = x := ⟨_, rfl⟩
  obtain ⟨y, hy⟩ : ∃ y, valW B = y := ⟨_, rfl⟩
  rw [hx] at CA
  rw [hy] at CB
  rw [hBB, hy] at h3
  have hq : readQ l = (x : Rat) / (y : Rat) := by unfold readQ; rw [hA, hBB, hx, hy]
  rw [hq] at h4
  obtain ⟨q, hqq⟩ : ∃ q, (x : Rat) / (y : Rat) = q := ⟨_, rfl⟩
  rw [hqq] at h4 hq
  obtain ⟨s, hs⟩ : ∃ s, y.sign = s := ⟨_, rfl⟩
  obtain ⟨t, htt⟩ : ∃ t, ptext q = t := ⟨_, rfl⟩
  rw [htt] at h4
  have hne : ((str t).toList == (str l).toList) = false := by rw [str_list, str_list]; exact beq_eq_false_iff_ne.2 h4
  have cT := fun va w hv ht => Print_any va 2000 q w (by omega) hv ht
  simp only [htt] at cT
  have CT := Lib.hid cT
  clear cT htt
  clear cC cA cB hf hb hp hA hBB hBe
  clear hx hy
  obtain ⟨w1, hw1, pr_0, hb1, hs1⟩ := new_box w (w.heap.size) rfl [.bool false, .slice none 0 0, .slice none 0 0] 46
  have hb1' : Below w.heap.size w w1 := hb1.mono (by omega)
  clear hb1
  have hB_1 := hB_0.trans (hb1'.mono hB_0.size)
  clear hb1' hB_0
  go_enter Tryz.func27, Tryz.ntmps27
  go_wp2_with fail
  refine (CC.out _).mono ?_
  rintro e w2 ⟨rfl, hb2⟩
  have hB_2 := hB_1.trans (hb2.mono hB_1.size)
  have pr_1 := pr_0.below hb2
  clear hb2 hB_1 pr_0
  go_wp2_with fail
  refine (CA.out _).mono ?_
  rintro e w3 ⟨m1, o1, n1, c1, rfl, f1_0, hb3⟩
  have hB_3 := hB_2.trans (hb3.mono hB_2.size)
  have pr_2 := pr_1.below hb3
  clear hb3 hB_2 pr_1
  have hl1pr := pr_2.lt
  have hl1B := hB_3.size
  obtain ⟨w4, hw4, pa_0, hb4, hs4⟩ := new_box w3 (w3.heap.size) rfl [.bool m1, .slice o1 n1 c1] 32
  have hb4' : Below w3.heap.size w3 w4 := hb4.mono (by omega)
  clear hb4
  have hB_4 := hB_3.trans (hb4'.mono hB_3.size)
  have pr_3 := pr_2.below hb4'
  have f1_1 := f1_0.below hb4'
  clear hb4' hB_3 pr_2 f1_0
  obtain ⟨pae0, pae1, pae2, pae3⟩ := pa_0.open2
  go_wp2_with fail
  try rw [hw4]
  refine (CB.out _).mono ?_
  rintro e w5 ⟨m2, o2, n2, c2, rfl, f2_0, hb5⟩
  clear pae0 pae1 pae2 pae3
  have hB_5 := hB_4.trans (hb5.mono hB_4.size)
  have pr_4 := pr_3.below hb5
  have f1_2 := f1_1.below hb5
  have pa_1 := pa_0.below hb5
  clear hb5 hB_4 pr_3 f1_1 pa_0
  have hl2pr := pr_4.lt
  have hl2pa := pa_1.lt
  have hl2B := hB_5.size
  obtain ⟨w6, hw6, pb_0, hb6, hs6⟩ := new_box w5 (w5.heap.size) rfl [.bool m2, .slice o2 n2 c2] 32
  have hb6' : Below w5.heap.size w5 w6 := hb6.mono (by omega)
  clear hb6
  have hB_6 := hB_5.trans (hb6'.mono hB_5.size)
  have pr_5 := pr_4.below hb6'
  have f1_3 := f1_2.below hb6'
  have pa_2 := pa_1.below hb6'
  have f2_1 := f2_0.below hb6'
  clear hb6' hB_5 pr_4 f1_2 pa_1 f2_0
  obtain ⟨pae0, pae1, pae2, pae3⟩ := pa_2.open2
  obtain ⟨pbe0, pbe1, pbe2, pbe3⟩ := pb_0.open2
  go_wp2_with fail
  try rw [hw6]
  refine (fMake_some _ _ 2000 2000 x y _ (by omega) (by omega) f1_3.num f2_1.num h3).mono ?_
  rintro e w7 ⟨m3, o3, n3, c3, p3, k3, d3, rfl, f3_0, hb7⟩
  clear pae0 pae1 pae2 pae3 pbe0 pbe1 pbe2 pbe3
  have hB_7 := hB_6.trans (hb7.mono hB_6.size)
  have pr_6 := pr_5.below hb7
  have f1_4 := f1_3.below hb7
  have pa_3 := pa_2.below hb7
  have f2_2 := f2_1.below hb7
  have pb_1 := pb_0.below hb7
  clear hb7 hB_6 pr_5 f1_3 pa_2 f2_1 pb_0
  rw [hqq] at f3_0
  have f3_0' := f3_0.more (L' := 2000) (by omega)
  clear f3_0
  have f3_0 := f3_0'
  clear f3_0'
  clear f1_4 f2_2
  have hl3pr := pr_6.lt
  have hl3pa := pa_3.lt
  have hl3pb := pb_1.lt
  have hl3B := hB_7.size
  obtain ⟨w8, hw8, pq_0, hb8, hs8⟩ := new_box w7 (w7.heap.size) rfl [.bool m3, .slice o3 n3 c3, .slice p3 k3 d3] 46
  have hb8' : Below w7.heap.size w7 w8 := hb8.mono (by omega)
  clear hb8
  have hB_8 := hB_7.trans (hb8'.mono hB_7.size)
  have pr_7 := pr_6.below hb8'
  have pa_4 := pa_3.below hb8'
  have pb_2 := pb_1.below hb8'
  have f3_1 := f3_0.below hb8'
  clear hb8' hB_7 pr_6 pa_3 pb_1 f3_0
  obtain ⟨pqe0, pqe1, pqe2, pqe3, pqe4, pqe5⟩ := pq_0.open3
  go_wp2_with fail
  try rw [hw8]
  refine (CT.out _ _ f3_1.q (ht.below hB_8)).mono ?_
  rintro e w9 ⟨rfl, hb9⟩
  clear pqe0 pqe1 pqe2 pqe3 pqe4 pqe5
  have hB_9 := hB_8.trans (hb9.mono hB_8.size)
  have pr_8 := pr_7.below hb9
  have pa_5 := pa_4.below hb9
  have pb_3 := pb_2.below hb9
  have f3_2 := f3_1.below hb9
  have pq_1 := pq_0.below hb9
  clear hb9 hB_8 pr_7 pa_4 pb_2 f3_1 pq_0
  obtain ⟨pqe0, pqe1, pqe2, pqe3, pqe4, pqe5⟩ := pq_1.open3
  clear f3_2
  obtain ⟨sf1a, sf1b, sf1c, sf1d, sf1e, sf1f⟩ := pr_8.open3
  obtain ⟨sg1a, sg1b, sg1c, sg1d⟩ := Box.put3 pr_8 (.bool false) (.slice none 0 0)
  go_wp2
  clear pqe0 pqe1 pqe2 pqe3 pqe4 pqe5 sf1a sf1b sf1c sf1d sf1e sf1f sg1a sg1b sg1c sg1d
  have hB_10 := below_setAll hB_9 (g := w.heap.size) (by omega) [.bool false, .slice none 0 0, .slice none 0 0]
  have pa_6 := pa_5.farAll (g' := w.heap.size) (by omega) [.bool false, .slice none 0 0, .slice none 0 0]
  have pb_4 := pb_3.farAll (g' := w.heap.size) (by omega) [.bool false, .slice none 0 0, .slice none 0 0]
  have pq_2 := pq_1.farAll (g' := w.heap.size) (by omega) [.bool false, .slice none 0 0, .slice none 0 0]
  have pr_9 := pr_8.setAll [.bool false, .slice none 0 0, .slice none 0 0] rfl
  simp only [setAll, Nat.zero_add, Nat.reduceAdd] at hB_10 pr_9 pa_6 pb_4 pq_2
  clear hB_9 pa_5 pb_3 pq_1 pr_8
  generalize (World.setCell (World.setCell (World.setCell w9 ⟨w.heap.size, 0, none⟩ (.bool false)) ⟨w.heap.size, 1, none⟩ (.slice none 0 0)) ⟨w.heap.size, 2, none⟩ (.slice none 0 0)) = w10 at *
  go_wp2
  obtain ⟨pre0, pre1, pre2, pre3, pre4, pre5⟩ := pr_9.open3
  exact bodyPost_ret (v := .tuple #[.agg #[.bool false, .slice none 0 0, .slice none 0 0], .int .i64 1]) (by simp [results, Tryz.results27, go_sem, pre0, pre1, pre2]) rfl ⟨rfl, hB_10⟩
set_option maxRecDepth 100000 in
set_option maxHeartbeats 600000 in
theorem Read_ok_false (l : List UInt8) (w : World) (ht : Tens w) (h800 : l.length ≤ 800) (hp : (cutC 47 l).2.2 = false) (h1 : okW (rA l) = true) (h2 : okW (rB l) = true) (h3 : valW (rB l) ≠ 0) (h4 : ptext (readQ l) = l) :
    Calls Tryz.prog 27 #[.string (str l)] w fun e w' => AnsFO w w' e 2000 (readQ l) := by
  have hB_0 := Below.refl w.heap.size w
  have hz : (str l).size = l.length := str_size l
  have h800i : ¬ (800 : Int) < (l.length : Int) := by omega
  have hcl := cutC_len 47 l
  have cC := fun w => cut_any l 47 w (by omega)
  obtain ⟨f, hf⟩ : ∃ f, (cutC 47 l).1 = f := ⟨_, rfl⟩
  obtain ⟨b, hb⟩ : ∃ b, (cutC 47 l).2.1 = b := ⟨_, rfl⟩
  simp only [hf, hb, hp] at cC hcl
  have hA : rA l = f := hf
  have hBB : rB l = [49] := by unfold rB; rw [hp]; rfl
  obtain ⟨B, hBe⟩ : ∃ B : List UInt8, B = [49] := ⟨_, rfl⟩
  rw [← hBe] at hBB
  have hBl : B.length ≤ 1000 := by rw [hBe]; simp
  have cA := fun w => whole_is f true (valW f) w (by omega) (by rw [← hA]; exact h1) (by rw [← hA, h1]; rfl)
  have cB : ∀ w, Calls Tryz.prog 52 #[.string (⟨#[49]⟩)] w fun e w' => AnsNumB w w' e 2000 (valW B) (true) := by
    intro w
    have := whole_is B (true) (valW B) w hBl (by rw [← hBB]; exact h2) (by rw [← hBB, h2]; rfl)
    rw [hBe] at this
    try rw [hBe]
    exact this
  have CC := Lib.hid cC; have CA := Lib.hid cA; have CB := Lib.hid cB
  obtain ⟨x, hx⟩ : ∃ x, valW f = x := ⟨_, rfl⟩
  obtain ⟨y, hy⟩ : ∃ y, valW B = y := ⟨_, rfl⟩
  rw [hx] at CA
  rw [hy] at CB
  rw [hBB, hy] at h3
  have hq : readQ l = (x : Rat) / (y : Rat) := by unfold readQ; rw [hA, hBB, hx, hy]
  rw [hq] at h4
  obtain ⟨q, hqq⟩ : ∃ q, (x : Rat) / (y : Rat) = q := ⟨_, rfl⟩
  rw [hqq] at h4 hq
  obtain ⟨s, hs⟩ : ∃ s, y.sign = s := ⟨_, rfl⟩
  have cT := fun va w hv ht => Print_any va 2000 q w (by omega) hv ht
  simp only [h4] at cT
  have CT := Lib.hid cT
  clear cT
  clear cC cA cB hf hb hp hA hBB hBe
  clear hx hy
  obtain ⟨w1, hw1, pr_0, hb1, hs1⟩ := new_box w (w.heap.size) rfl [.bool false, .slice none 0 0, .slice none 0 0] 46
  have hb1' : Below w.heap.size w w1 := hb1.mono (by omega)
  clear hb1
  have hB_1 := hB_0.trans (hb1'.mono hB_0.size)
  clear hb1' hB_0
  go_enter Tryz.func27, Tryz.ntmps27
  go_wp2_with fail
  refine (CC.out _).mono ?_
  rintro e w2 ⟨rfl, hb2⟩
  have hB_2 := hB_1.trans (hb2.mono hB_1.size)
  have pr_1 := pr_0.below hb2
  clear hb2 hB_1 pr_0
  go_wp2_with fail
  refine (CA.out _).mono ?_
  rintro e w3 ⟨m1, o1, n1, c1, rfl, f1_0, hb3⟩
  have hB_3 := hB_2.trans (hb3.mono hB_2.size)
  have pr_2 := pr_1.below hb3
  clear hb3 hB_2 pr_1
  have hl1pr := pr_2.lt
  have hl1B := hB_3.size
  obtain ⟨w4, hw4, pa_0, hb4, hs4⟩ := new_box w3 (w3.heap.size) rfl [.bool m1, .slice o1 n1 c1] 32
  have hb4' : Below w3.heap.size w3 w4 := hb4.mono (by omega)
  clear hb4
  have hB_4 := hB_3.trans (hb4'.mono hB_3.size)
  have pr_3 := pr_2.below hb4'
  have f1_1 := f1_0.below hb4'
  clear hb4' hB_3 pr_2 f1_0
  obtain ⟨pae0, pae1, pae2, pae3⟩ := pa_0.open2
  go_wp2_with fail
  try rw [hw4]
  refine (CB.out _).mono ?_
  rintro e w5 ⟨m2, o2, n2, c2, rfl, f2_0, hb5⟩
  clear pae0 pae1 pae2 pae3
  have hB_5 := hB_4.trans (hb5.mono hB_4.size)
  have pr_4 := pr_3.below hb5
  have f1_2 := f1_1.below hb5
  have pa_1 := pa_0.below hb5
  clear hb5 hB_4 pr_3 f1_1 pa_0
  have hl2pr := pr_4.lt
  have hl2pa := pa_1.lt
  have hl2B := hB_5.size
  obtain ⟨w6, hw6, pb_0, hb6, hs6⟩ := new_box w5 (w5.heap.size) rfl [.bool m2, .slice o2 n2 c2] 32
  have hb6' : Below w5.heap.size w5 w6 := hb6.mono (by omega)
  clear hb6
  have hB_6 := hB_5.trans (hb6'.mono hB_5.size)
  have pr_5 := pr_4.below hb6'
  have f1_3 := f1_2.below hb6'
  have pa_2 := pa_1.below hb6'
  have f2_1 := f2_0.below hb6'
  clear hb6' hB_5 pr_4 f1_2 pa_1 f2_0
  obtain ⟨pae0, pae1, pae2, pae3⟩ := pa_2.open2
  obtain ⟨pbe0, pbe1, pbe2, pbe3⟩ := pb_0.open2
  go_wp2_with fail
  try rw [hw6]
  refine (fMake_some _ _ 2000 2000 x y _ (by omega) (by omega) f1_3.num f2_1.num h3).mono ?_
  rintro e w7 ⟨m3, o3, n3, c3, p3, k3, d3, rfl, f3_0, hb7⟩
  clear pae0 pae1 pae2 pae3 pbe0 pbe1 pbe2 pbe3
  have hB_7 := hB_6.trans (hb7.mono hB_6.size)
  have pr_6 := pr_5.below hb7
  have f1_4 := f1_3.below hb7
  have pa_3 := pa_2.below hb7
  have f2_2 := f2_1.below hb7
  have pb_1 := pb_0.below hb7
  clear hb7 hB_6 pr_5 f1_3 pa_2 f2_1 pb_0
  rw [hqq] at f3_0
  have f3_0' := f3_0.more (L' := 2000) (by omega)
  clear f3_0
  have f3_0 := f3_0'
  clear f3_0'
  clear f1_4 f2_2
  have hl3pr := pr_6.lt
  have hl3pa := pa_3.lt
  have hl3pb := pb_1.lt
  have hl3B := hB_7.size
  obtain ⟨w8, hw8, pq_0, hb8, hs8⟩ := new_box w7 (w7.heap.size) rfl [.bool m3, .slice o3 n3 c3, .slice p3 k3 d3] 46
  have hb8' : Below w7.heap.size w7 w8 := hb8.mono (by omega)
  clear hb8
  have hB_8 := hB_7.trans (hb8'.mono hB_7.size)
  have pr_7 := pr_6.below hb8'
  have pa_4 := pa_3.below hb8'
  have pb_2 := pb_1.below hb8'
  have f3_1 := f3_0.below hb8'
  clear hb8' hB_7 pr_6 pa_3 pb_1 f3_0
  obtain ⟨pqe0, pqe1, pqe2, pqe3, pqe4, pqe5⟩ := pq_0.open3
  go_wp2_with fail
  try rw [hw8]
  refine (CT.out _ _ f3_1.q (ht.below hB_8)).mono ?_
  rintro e w9 ⟨rfl, hb9⟩
  clear pqe0 pqe1 pqe2 pqe3 pqe4 pqe5
  have hB_9 := hB_8.trans (hb9.mono hB_8.size)
  have pr_8 := pr_7.below hb9
  have pa_5 := pa_4.below hb9
  have pb_3 := pb_2.below hb9
  have f3_2 := f3_1.below hb9
  have pq_1 := pq_0.below hb9
  clear hb9 hB_8 pr_7 pa_4 pb_2 f3_1 pq_0
  obtain ⟨pqe0, pqe1, pqe2, pqe3, pqe4, pqe5⟩ := pq_1.open3
  obtain ⟨sf1a, sf1b, sf1c, sf1d, sf1e, sf1f⟩ := pr_8.open3
  obtain ⟨sg1a, sg1b, sg1c, sg1d⟩ := Box.put3 pr_8 (.bool m3) (.slice o3 n3 c3)
  go_wp2
  clear pqe0 pqe1 pqe2 pqe3 pqe4 pqe5 sf1a sf1b sf1c sf1d sf1e sf1f sg1a sg1b sg1c sg1d
  have hB_10 := below_setAll hB_9 (g := w.heap.size) (by omega) [.bool m3, .slice o3 n3 c3, .slice p3 k3 d3]
  have pa_6 := pa_5.farAll (g' := w.heap.size) (by omega) [.bool m3, .slice o3 n3 c3, .slice p3 k3 d3]
  have pb_4 := pb_3.farAll (g' := w.heap.size) (by omega) [.bool m3, .slice o3 n3 c3, .slice p3 k3 d3]
  have f3_3 := f3_2.setAll pr_8 (noWord3 _ _ _ _ _ _ _) [.bool m3, .slice o3 n3 c3, .slice p3 k3 d3] rfl
  have pq_2 := pq_1.farAll (g' := w.heap.size) (by omega) [.bool m3, .slice o3 n3 c3, .slice p3 k3 d3]
  have pr_9 := pr_8.setAll [.bool m3, .slice o3 n3 c3, .slice p3 k3 d3] rfl
  simp only [setAll, Nat.zero_add, Nat.reduceAdd] at hB_10 pr_9 pa_6 pb_4 f3_3 pq_2
  clear hB_9 pa_5 pb_3 f3_2 pq_1 pr_8
  generalize (World.setCell (World.setCell (World.setCell w9 ⟨w.heap.size, 0, none⟩ (.bool m3)) ⟨w.heap.size, 1, none⟩ (.slice o3 n3 c3)) ⟨w.heap.size, 2, none⟩ (.slice p3 k3 d3)) = w10 at *
  go_wp2
  obtain ⟨pre0, pre1, pre2, pre3, pre4, pre5⟩ := pr_9.open3
  exact bodyPost_ret (v := .tuple #[.agg #[.bool m3, .slice o3 n3 c3, .slice p3 k3 d3], .int .i64 0]) (by simp [results, Tryz.results27, go_sem, pre0, pre1, pre2]) rfl ⟨_, _, _, _, _, _, _, rfl, hq ▸ f3_3, hB_10⟩
def readOk (l : List UInt8) : Prop := l.length ≤ 800 ∧ okW (rA l) = true ∧ okW (rB l) = true ∧ valW (rB l) ≠ 0 ∧ ptext (readQ l) = l
theorem Read_yes (l : List UInt8) (w : World) (ht : Tens w) (h : readOk l) : Calls Tryz.prog 27 #[.string (str l)] w fun e w' => AnsFO w w' e 2000 (readQ l) := by
  obtain ⟨h0, h1, h2, h3, h4⟩ := h
  cases hp : (cutC 47 l).2.2 with
  | true => exact Read_ok_true l w ht h0 hp h1 h2 h3 h4
  | false => exact Read_ok_false l w ht h0 hp h1 h2 h3 h4
theorem Read_no (l : List UInt8) (w : World) (ht : Tens w) (h0 : l.length ≤ 800) (h : ¬ readOk l) : Calls Tryz.prog 27 #[.string (str l)] w fun e w' => AnsFE w w' e 1 := by
  cases hp : (cutC 47 l).2.2 <;> cases h1 : okW (rA l) <;> cases h2 : okW (rB l)
  all_goals first
    | exact Read_fa_true l w ht h0 hp h1
    | exact Read_fa_false l w ht h0 hp h1
    | exact Read_fb_true l w ht h0 hp h1 h2
    | exact Read_fb_false l w ht h0 hp h1 h2
    | skip
  · by_cases h3 : valW (rB l) = 0
    · exact Read_fz_false l w ht h0 hp h1 h2 h3
    · exact Read_ft_false l w ht h0 hp h1 h2 h3 (fun h4 => h ⟨h0, h1, h2, h3, h4⟩)
  · by_cases h3 : valW (rB l) = 0
    · exact Read_fz_true l w ht h0 hp h1 h2 h3
    · exact Read_ft_true l w ht h0 hp h1 h2 h3 (fun h4 => h ⟨h0, h1, h2, h3, h4⟩)
end Go.Proofs.YtbeohedkeklaiaaGreatDoor
/- Noughts ahead of a number's text, and behind it. Of no program. -/
namespace Go.MagS
open Go
/-- So many 0s ahead. -/
def zAhead (t : Nat) (l : List UInt8) : List UInt8 := List.replicate t 48 ++ l
/-- So many 0s behind. -/
def zBehind (t : Nat) (l : List UInt8) : List UInt8 := l ++ List.replicate t 48
/-- A point, if there is none, and 0s follow. -/
def zDotted (k q : Nat) (l : List UInt8) : List UInt8 := if k = 0 ∧ 0 < q then l ++ [46] else l
theorem zAhead_zero (l : List UInt8) : zAhead 0 l = l := rfl
theorem zBehind_zero (l : List UInt8) : zBehind 0 l = l := by simp [zBehind]
theorem ahead_len (t : Nat) (l : List UInt8) : (zAhead t l).length = t + l.length := by simp [zAhead]
theorem behind_len (t : Nat) (l : List UInt8) : (zBehind t l).length = l.length + t := by simp [zBehind]
theorem ahead_step (t : Nat) (l : List UInt8) : (⟨#[48]⟩ : ByteArray) ++ str (zAhead t l) = str (zAhead (t + 1) l) := by
  rw [show (⟨#[48]⟩ : ByteArray) = str [48] from rfl, str_append]; unfold zAhead; rw [List.replicate_succ]; rfl
theorem behind_step (t : Nat) (l : List UInt8) : str (zBehind t l) ++ (⟨#[48]⟩ : ByteArray) = str (zBehind (t + 1) l) := by
  rw [show (⟨#[48]⟩ : ByteArray) = str [48] from rfl, str_append]; unfold zBehind; rw [List.replicate_succ', List.append_assoc]
theorem cons_step (c : UInt8) (l : List UInt8) : (⟨#[c]⟩ : ByteArray) ++ str l = str (c :: l) := by
  rw [show (⟨#[c]⟩ : ByteArray) = str [c] from rfl, str_append]; rfl
theorem point_step (l : List UInt8) : str l ++ (⟨#[46]⟩ : ByteArray) = str (l ++ [46]) := by
  rw [show (⟨#[46]⟩ : ByteArray) = str [46] from rfl, str_append]
theorem fitK_behind {b : List UInt8} {k : Nat} (q : Nat) (h : b.length = k) : fitK (b ++ List.replicate q 48) k = (b, true) := by
  subst h
  unfold fitK
  rw [List.drop_left, List.take_left, if_pos (by unfold allZ; rw [List.all_eq_true]; intro x hx; rw [List.eq_of_mem_replicate hx]; rfl)]
  have : b.length - (b ++ List.replicate q (48 : UInt8)).length = 0 := by rw [List.length_append]; omega
  rw [this, List.replicate_zero, List.append_nil]
/-- The text, its sign told, noughts ahead, and noughts at the end zBehind the point: what it is read as. -/
theorem zeros_parse {x : Int} {k p q : Nat} {D : List UInt8} (hD : pointed k (padK (k + 1) (Lib.decDigits x.natAbs)) = D) (hx : x.natAbs ≤ 2147483648) (hk : k ≤ 9) (hp : p ≤ 29) (hq : q ≤ 29) {c : UInt8} {m : Bool}
    (hc : (c = 45 ∧ m = true) ∨ (c = 43 ∧ m = false)) :
    parseL (c :: zBehind q (zDotted k q (zAhead p D))) k = (if m then -(x.natAbs : Int) else (x.natAbs : Int), 0) ∧ D.length ≤ 40 := by
  have hlen0 := ftext_len (x := x) (k := k) (by have : (10 : Nat) ^ 19 = 10000000000000000000 := rfl; omega) hk
  unfold ftext at hlen0
  rw [hD] at hlen0
  have hDl : D.length ≤ 32 := by rw [List.length_append] at hlen0; omega
  refine ⟨?_, by omega⟩
  obtain ⟨a, b, h1, h2, h3, h4, h5, h6⟩ := pointed_pieces k (padK (k + 1) (Lib.decDigits x.natAbs)) (padK_dig (dec_dig _)) (by rw [padK_len]; omega)
  rw [hD] at h1
  have ha : a.all isDig = true := by unfold allDig at h2; rw [Bool.and_eq_true] at h2; exact h2.1
  have ha0 : 0 < a.length := by
    cases a with
    | nil => simp [allDig] at h2
    | cons => simp
  have e : c :: zBehind q (zDotted k q (zAhead p D)) = pieces [c] (List.replicate p 48 ++ a) (decide (0 < k) || decide (0 < q)) (b ++ List.replicate q 48) := by
    unfold pieces zBehind zDotted zAhead
    rw [h1, List.singleton_append]
    by_cases hk0 : k = 0
    · subst hk0
      obtain rfl : b = [] := List.length_eq_zero_iff.1 h3
      by_cases hq0 : 0 < q
      · simp [hq0]
      · obtain rfl : q = 0 := by omega
        simp
    · have hkp : 0 < k := by omega
      simp [hkp, hk0]
  have hl : (c :: zBehind q (zDotted k q (zAhead p D))).length ≤ 400 := by
    rw [List.length_cons, behind_len]
    unfold zDotted
    split
    · rw [List.length_append, ahead_len]; simp; omega
    · rw [ahead_len]; omega
  rw [e] at hl ⊢
  have hv : dval 0 (List.replicate p 48 ++ a ++ b) = x.natAbs := by
    rw [List.append_assoc, dval_append, dval_zeros, Nat.zero_mul, h5, padK_val, dec_val]
  rw [parse_pieces (m := m) (sg := [c]) (allDig_of (by rw [List.all_append, zeros_dig, ha]; rfl) (by rw [List.length_append]; omega))
    (fun hP => allDig_of (by rw [List.all_append, h4, zeros_dig]; rfl) (by
      rw [List.length_append, h3, List.length_replicate]
      simp at hP; omega))
    (fun hP => by
      simp at hP
      obtain ⟨rfl, rfl⟩ : k = 0 ∧ q = 0 := by omega
      obtain rfl : b = [] := List.length_eq_zero_iff.1 h3
      rfl) (by
      rcases hc with ⟨rfl, rfl⟩ | ⟨rfl, rfl⟩
      · exact .inr (.inl ⟨rfl, rfl⟩)
      · exact .inr (.inr ⟨rfl, rfl⟩)) hl (fitK_behind q h3), hv, if_neg (by omega)]
theorem ftext_neg {x : Int} {k : Nat} {D : List UInt8} (hD : pointed k (padK (k + 1) (Lib.decDigits x.natAbs)) = D) (h : x < 0) : ftext x k = 45 :: D := by unfold ftext; rw [hD, decide_eq_true h]; rfl
theorem ftext_pos {x : Int} {k : Nat} {D : List UInt8} (hD : pointed k (padK (k + 1) (Lib.decDigits x.natAbs)) = D) (h : ¬ x < 0) : ftext x k = D := by unfold ftext; rw [hD, decide_eq_false h]; rfl
theorem zeros_neg {x : Int} {k p q : Nat} {D : List UInt8} (hD : pointed k (padK (k + 1) (Lib.decDigits x.natAbs)) = D) (hx : x.natAbs ≤ 2147483648) (hk : k ≤ 9) (hp : p ≤ 29) (hq : q ≤ 29) (h : x < 0) :
    parseL (45 :: zBehind q (zDotted k q (zAhead p D))) k = (x, 0) ∧ D.length ≤ 40 := by
  have := zeros_parse hD hx hk hp hq (c := 45) (m := true) (.inl ⟨rfl, rfl⟩)
  refine ⟨this.1.trans ?_, this.2⟩
  rw [if_pos rfl]; congr 1; omega
theorem zeros_pos {x : Int} {k p q : Nat} {D : List UInt8} (hD : pointed k (padK (k + 1) (Lib.decDigits x.natAbs)) = D) (hx : x.natAbs ≤ 2147483648) (hk : k ≤ 9) (hp : p ≤ 29) (hq : q ≤ 29) (h : ¬ x < 0) :
    parseL (43 :: zBehind q (zDotted k q (zAhead p D))) k = (x, 0) ∧ D.length ≤ 40 := by
  have := zeros_parse hD hx hk hp hq (c := 43) (m := false) (.inr ⟨rfl, rfl⟩)
  refine ⟨this.1.trans ?_, this.2⟩
  rw [if_neg (by decide)]; congr 1; omega
end Go.MagS
/- What each statement of layer 4 asks first: half of one, less than nothing. -/
namespace Go.Proofs.YtbeohedkeklaiaaGreatDoor
open Go.RowKit Go.MagM Go.MagS
theorem dec12 : Lib.decDigits 12 = [49, 50] := by rw [dec_big (by decide), dec_small (by decide)]; rfl
theorem dec50 : Lib.decDigits 50 = [53, 48] := by rw [dec_big (by decide), dec_small (by decide)]; rfl
theorem half_parse (w : World) : Calls Tryz.prog 11 #[.string ⟨#[45, 48, 46, 53]⟩, .int .i64 2] w fun e w' => e = .returned (.tuple #[.int .i64 (-50), .int .i64 0]) ∧ Below w.heap.size w w' := by
  have h := parse_any [45, 48, 46, 53] 2 w
  rw [show parseL [45, 48, 46, 53] (scl 2) = (-50, 0) by decide +kernel] at h
  exact h
theorem half_text (w : World) (ht : Tens w) : Calls Tryz.prog 13 #[.int .i64 (-50), .int .i64 2] w fun e w' => e = .returned (.string ⟨#[45, 48, 46, 53, 48]⟩) ∧ Below w.heap.size w w' := by
  have h := Text_any (-50) 2 w (by omega) (by omega) ht
  rw [show ftext (-50) (scl 2) = [45, 48, 46, 53, 48] by unfold ftext; rw [show (-50 : Int).natAbs = 50 from rfl, dec50]; decide +kernel] at h
  exact h
theorem dozen_text (va : Value) (w : World) (ha : Num w va 1 (-12)) (ht : Tens w) : Calls Tryz.prog 17 #[va] w fun e w' => e = .returned (.string ⟨#[45, 49, 50]⟩) ∧ Below w.heap.size w w' := by
  have h := dDigits_any va 1 (-12) w (by omega) ha ht
  rw [show wtext (-12) = [45, 49, 50] by unfold wtext; rw [show (-12 : Int).natAbs = 12 from rfl, dec12]; decide +kernel] at h
  exact h
set_option maxRecDepth 100000 in
set_option maxHeartbeats 4000000 in
theorem fit_ok (w : World) (ht : Tens w) : Calls Tryz.prog 10 #[] w fun e w' => e = .returned (.bool true) ∧ Below w.heap.size w w' := by
  go_enter Tryz.func10, Tryz.ntmps10
  go_wp2_with (first
    | (go_at_call 11; refine (half_parse _).mono ?_; rintro e w1 ⟨rfl, hb1⟩; have ht1 := ht.below hb1; clear ht)
    | (go_at_call 13; refine (half_text _ ht1).mono ?_; rintro e w2 ⟨rfl, hb2⟩; have hB2 := hb1.trans (hb2.mono hb1.size); have ht2 := ht1.below hb2; clear hb1 hb2 ht1)
    | (go_at_call 16; refine (nOf_any (-12) (by omega) (by omega) _).mono ?_; rintro e w3 ⟨m, ao, n, c, rfl, hn, hb3⟩; have hB3 := hB2.trans (hb3.mono hB2.size); have ht3 := ht2.below hb3; clear hB2 hb3 ht2)
    | (go_at_call 17; refine (dozen_text _ _ hn.num ht3).mono ?_; rintro e w4 ⟨rfl, hb4⟩; have hB4 := hB3.trans (hb4.mono hB3.size); clear hB3 hb4 ht3 hn))
  go_ret
  exact ⟨rfl, hB4⟩
end Go.Proofs.YtbeohedkeklaiaaGreatDoor
/- How a number's digits are told one by one: the mathematics. Of no program. -/
namespace Go.MagS
open Go
/-- One digit. -/
def dg1 (a : Nat) : UInt8 := UInt8.ofNat (48 + a % 10)
theorem dg1_nat (a : Nat) : (dg1 a).toNat = 48 + a % 10 := byte_of (by omega)
theorem dec_snoc (a : Nat) : Lib.decDigits a = (if a / 10 = 0 then [] else Lib.decDigits (a / 10)) ++ [dg1 a] := by
  by_cases h : a < 10
  · rw [dec_small h, if_pos (by omega)]; unfold dg1; rw [Nat.mod_eq_of_lt h]; rfl
  · rw [dec_big h, if_neg (by omega)]; rfl
theorem padK_step {r : Nat} (a : Nat) (hr : 0 < r) : padK (r + 1) (Lib.decDigits a) = padK r (Lib.decDigits (a / 10)) ++ [dg1 a] := by
  by_cases h : a < 10
  · rw [dec_small h, show a / 10 = 0 by omega, dec_zero]
    unfold padK dg1
    rw [Nat.mod_eq_of_lt h]
    simp only [List.length_singleton, Nat.add_sub_cancel]
    congr 1
    obtain ⟨q, rfl⟩ : ∃ q, r = q + 1 := ⟨r - 1, by omega⟩
    rw [Nat.add_sub_cancel, List.replicate_succ']
  · rw [dec_big h]
    unfold padK
    rw [List.length_append, List.length_singleton, Nat.add_sub_add_right, List.append_assoc]
    rfl
/-- The loop: what is left counts a, and j digits have been laid. -/
def tgo (k : Nat) : Nat → Nat → Nat → List UInt8 → List UInt8
  | 0, _, _, s => s
  | f + 1, a, j, s => if a ≠ 0 ∨ j ≤ k then tgo k f (a / 10) (j + 1) (dg1 a :: (if j = k ∧ 0 < k then 46 :: s else s)) else s
theorem tgo_done {k f a j : Nat} {s : List UInt8} (h : ¬ (a ≠ 0 ∨ j ≤ k)) : tgo k f a j s = s := by
  cases f with
  | zero => rfl
  | succ f => rw [tgo, if_neg h]
theorem tgo_step {k f a j : Nat} {s : List UInt8} (h : a ≠ 0 ∨ j ≤ k) : tgo k (f + 1) a j s = tgo k f (a / 10) (j + 1) (dg1 a :: (if j = k ∧ 0 < k then 46 :: s else s)) := by rw [tgo, if_pos h]
theorem tgo_front {k : Nat} : ∀ (f a j : Nat) (s : List UInt8), k < j → a < f → tgo k f a j s = (if a = 0 then [] else Lib.decDigits a) ++ s
  | 0, a, j, s, _, h => by omega
  | f + 1, a, j, s, hj, h => by
    by_cases ha : a = 0
    · rw [tgo_done (by omega), if_pos ha]; rfl
    · rw [tgo_step (.inl ha), tgo_front f (a / 10) (j + 1) _ (by omega) (by omega), if_neg ha, dec_snoc a, if_neg (show ¬ (j = k ∧ 0 < k) by omega), List.append_assoc]; rfl
/-- Where the point stands, if there is one. -/
def ptd (r : Nat) (l : List UInt8) : List UInt8 := l.take (l.length - r) ++ 46 :: l.drop (l.length - r)
theorem ptd_snoc {r : Nat} {l : List UInt8} (x : UInt8) (h : r ≤ l.length) : ptd (r + 1) (l ++ [x]) = ptd r l ++ [x] := by
  unfold ptd
  rw [List.length_append, List.length_singleton, Nat.add_sub_add_right, List.take_append_of_le_length (by omega), List.drop_append_of_le_length (by omega), List.append_assoc]; rfl
theorem tgo_all {k : Nat} (hk : 0 < k) : ∀ (r f a : Nat) (s : List UInt8), r ≤ k → a + r < f → tgo k f a (k - r) s = ptd r (padK (r + 1) (Lib.decDigits a)) ++ s
  | 0, 0, _, _, _, h => by omega
  | r + 1, 0, _, _, _, h => by omega
  | 0, f + 1, a, s, _, h => by
    rw [Nat.sub_zero, tgo_step (.inr (Nat.le_refl _)), if_pos ⟨rfl, hk⟩]
    by_cases hf : f = 0
    · subst hf
      have : a = 0 := by omega
      subst this
      rw [show (0 : Nat) / 10 = 0 from rfl]
      show tgo k 0 0 (k + 1) _ = _
      rw [tgo, dec_zero]; rfl
    · rw [tgo_front f (a / 10) (k + 1) _ (by omega) (by omega)]
      have hp : padK (0 + 1) (Lib.decDigits a) = Lib.decDigits a := by
        unfold padK
        have := dec_pos a
        rw [show 0 + 1 - (Lib.decDigits a).length = 0 by omega]; rfl
      rw [hp]
      unfold ptd
      rw [Nat.sub_zero, List.take_length, List.drop_length, dec_snoc a]
      simp
  | r + 1, f + 1, a, s, hr, h => by
    rw [tgo_step (.inr (by omega)), if_neg (by omega), show k - (r + 1) + 1 = k - r by omega, tgo_all hk r f (a / 10) _ (by omega) (by omega), padK_step a (by omega), ptd_snoc _ (by rw [padK_len]; omega), List.append_assoc]; rfl
theorem tgo_text (k a f : Nat) (hf : a + k + 1 < f) : tgo k f a 0 [] = pointed k (padK (k + 1) (Lib.decDigits a)) := by
  rcases Nat.eq_zero_or_pos k with rfl | hk
  · obtain ⟨f, rfl⟩ : ∃ g, f = g + 1 := ⟨f - 1, by omega⟩
    have hp : padK (0 + 1) (Lib.decDigits a) = Lib.decDigits a := by
      unfold padK
      have := dec_pos a
      rw [show 0 + 1 - (Lib.decDigits a).length = 0 by omega]; rfl
    rw [tgo_step (.inr (Nat.le_refl _)), if_neg (by omega), hp]
    unfold pointed
    rw [if_pos rfl]
    by_cases hf0 : f = 0
    · omega
    · by_cases ha : a / 10 < f
      · rw [tgo_front f (a / 10) 1 _ (by omega) ha, ← dec_snoc]
      · omega
  · have := tgo_all hk k f a [] (Nat.le_refl _) (by omega)
    rw [Nat.sub_self, List.append_nil] at this
    rw [this]
    unfold pointed ptd
    rw [if_neg (by omega)]
end Go.MagS
/- The statements' own text of so many units. -/
namespace Go.Proofs.YtbeohedkeklaiaaGreatDoor
open Go.RowKit Go.MagM Go.MagS
/-- 'string([]byte{x})'. -/
theorem byte_text (x : UInt8) (v : Int) (hv : v = (x.toNat : Int)) (W : World) : (convert 75 9 (.slice (some ⟨W.heap.size, 0, none⟩) 1 1)).run Tryz.prog (W.alloc (.cells #[.int .u8 v] 5)) = .ok (.string (str [x])) (W.alloc (.cells #[.int .u8 v] 5)) := by
  have h := run_convert_bytes_back (P := Tryz.prog) (W.alloc (.cells #[.int .u8 v] 5)) 75 9 5 ⟨W.heap.size, 0, none⟩ 1 [x] Tryz.underlying75 Tryz.underlying5 Tryz.underlying9 (fun q hq => by
    have h0 : q = 0 := by simpa using hq
    subst h0
    subst hv
    simp [Addr.add, go_sem])
  exact h
/-- Where the loop stands. -/
def TxRel (w0 : World) (k : Nat) (m : Bool) (A f0 : Nat) (nv sv jv : Value) (wr : World) : Prop :=
  ∃ (a j f : Nat) (s : List UInt8), nv = .int .i64 (sgn m a) ∧ jv = .int .i64 j ∧ sv = .string (str s) ∧ tgo k f a j s = tgo k f0 A 0 [] ∧ a + (k + 1 - j) < f ∧ a ≤ A ∧ j ≤ k + 21 ∧ s.length ≤ 2 * j ∧ (k < j → a * 10 ^ (j - k - 1) ≤ A) ∧ Below w0.heap.size w0 wr
theorem tx_step {A a j k : Nat} (hA : A ≤ 9223372036854775808) (ha : a ≤ A) (hc : a ≠ 0 ∨ j ≤ k) (hp : k < j → a * 10 ^ (j - k - 1) ≤ A) : a / 10 ≤ A ∧ j + 1 ≤ k + 21 ∧ (k < j + 1 → a / 10 * 10 ^ (j + 1 - k - 1) ≤ A) := by
  refine ⟨by omega, ?_, ?_⟩
  · rcases Nat.lt_or_ge k j with h | h
    · have h1 := hp h
      have ha1 : 1 ≤ a := by omega
      rcases Nat.lt_or_ge (j - k - 1) 19 with h2 | h2
      · omega
      · exfalso
        have h3 : 10 ^ 19 ≤ 10 ^ (j - k - 1) := Nat.pow_le_pow_right (by omega) h2
        have h4 : 10 ^ (j - k - 1) ≤ a * 10 ^ (j - k - 1) := Nat.le_mul_of_pos_left _ (by omega)
        have h5 : (10 : Nat) ^ 19 = 10000000000000000000 := rfl
        omega
    · omega
  · intro h
    rcases Nat.lt_or_ge k j with h1 | h1
    · have h2 := hp h1
      have e : j + 1 - k - 1 = (j - k - 1) + 1 := by omega
      rw [e, Nat.pow_succ, Nat.mul_comm (10 ^ _), ← Nat.mul_assoc]
      exact Nat.le_trans (Nat.mul_le_mul_right _ (Nat.div_mul_le_self a 10)) h2
    · have e : j + 1 - k - 1 = 0 := by omega
      rw [e, Nat.pow_zero, Nat.mul_one]; omega
set_option maxRecDepth 100000 in
set_option maxHeartbeats 8000000 in
theorem text_false (A k : Nat) (w : World) (hA : A ≤ 9223372036854775808) (hk : k ≤ 9) (_ : false = true → A ≠ 0) (hm2 : false = false → A ≤ 9223372036854775807) :
    Calls Tryz.prog 14 #[.int .i64 (sgn false A), .int .i64 k] w fun e w' => e = .returned (.string (str (sgnL false ++ pointed k (padK (k + 1) (Lib.decDigits A))))) ∧ Below w.heap.size w w' := by
  have htext := tgo_text k A (A + k + 2) (by omega)
  have HT := Lib.hid htext
  clear htext
  have hneg : ¬ ((A : Int) < 0) := by omega
  rw [sgn_false]
  have hA3 := hm2 rfl
  clear hm2
  go_enter Tryz.func14, Tryz.ntmps14
  go_wp2
  go_loopw [0, 6, 7] (fun nv sv jv wr => TxRel w k false A (A + k + 2) nv sv jv wr) (fun nv _ jv _ => (intOf nv).natAbs + (k + 1 - (intOf jv).toNat))
  case atStart => exact ⟨A, 0, A + k + 2, [], rfl, rfl, rfl, rfl, by omega, Nat.le_refl _, by omega, by simp, fun h => by omega, Below.refl _ _⟩
  case round =>
    obtain ⟨a, j, f, s, rfl, rfl, rfl, ht, hf, ha, hj, hs, hp, hb⟩ := hrel
    rw [sgn_false]
    by_cases ha0 : a = 0
    · by_cases hjk1 : j ≤ k
      · have hjk3 : j ≤ k := hjk1
        by_cases hjk0 : j = k
        · by_cases hk0 : k = 0
          · have hj0 : j = 0 := by omega
            subst ha0
            have hjk : (j : Int) ≤ (k : Int) := by omega
            have hjb : ((j : Int) == (k : Int)) = true := by simp only [beq_iff_eq]; omega
            have hkb : ¬ (0 : Int) < (k : Int) := by omega
            obtain ⟨f, rfl⟩ : ∃ g, f = g + 1 := ⟨f - 1, by omega⟩
            have hst := tgo_step (k := k) (f := f) (a := 0) (j := j) (s := s) (by omega)
            rw [ht] at hst
            obtain ⟨s1, s2, s3⟩ := tx_step (j := j) hA ha (by omega) hp
            obtain ⟨x, hx⟩ : ∃ x, dg1 0 = x := ⟨_, rfl⟩
            have hxr : x.toNat = 48 := by rw [← hx, dg1_nat]
            have hbt := fun W => byte_text x 48 (by rw [hxr]; rfl) W
            have z1 : (str [x]).size = 1 := str_size [x]
            have z2 : (str s).size = s.length := str_size s
            have z3 : ¬ (9223372036854775807 < 1 + s.length) := by omega
            have z4 : str [x] ++ str s = str (x :: s) := str_append [x] _
            rw [hx, if_neg (by omega)] at hst
            have HST := Lib.hid hst; have S3 := Lib.hid s3
            clear hst ht hp s3 hx hxr hjk0 hj0 hk0
            go_wp2
            go_round
            case rel => exact ⟨0, j + 1, f, x :: s, by first | rfl | (simp [sgn]), by go_num, rfl, HST.out.symm, by have := hb.size; omega, s1, s2, by simp; omega, S3.out, hb.alloc hb.size _⟩
            case measure => have := hb.size; simp [intOf] <;> omega
          · have hkp : 0 < k := by omega
            subst ha0
            have hjk : (j : Int) ≤ (k : Int) := by omega
            subst hjk0
            have hkb : (0 : Int) < (j : Int) := by omega
            obtain ⟨f, rfl⟩ : ∃ g, f = g + 1 := ⟨f - 1, by omega⟩
            have hst := tgo_step (k := j) (f := f) (a := 0) (j := j) (s := s) (by omega)
            rw [ht] at hst
            obtain ⟨s1, s2, s3⟩ := tx_step (j := j) hA ha (by omega) hp
            obtain ⟨x, hx⟩ : ∃ x, dg1 0 = x := ⟨_, rfl⟩
            have hxr : x.toNat = 48 := by rw [← hx, dg1_nat]
            have hbt := fun W => byte_text x 48 (by rw [hxr]; rfl) W
            have z1 : (str [x]).size = 1 := str_size [x]
            have p1 : (str s).size = s.length := str_size s
            have p2 : ¬ (9223372036854775807 < 1 + s.length) := by omega
            have p3 : (⟨#[46]⟩ : ByteArray) ++ str s = str (46 :: s) := str_append [46] s
            have z2 : (str (46 :: s)).size = s.length + 1 := by rw [str_size]; rfl
            have z3 : ¬ (9223372036854775807 < 1 + (s.length + 1)) := by omega
            have z4 : str [x] ++ str (46 :: s) = str (x :: 46 :: s) := str_append [x] _
            rw [hx, if_pos ⟨rfl, by omega⟩] at hst
            have HST := Lib.hid hst; have S3 := Lib.hid s3
            clear hst ht hp s3 hx hxr
            go_wp2
            go_round
            case rel => exact ⟨0, j + 1, f, x :: 46 :: s, by first | rfl | (simp [sgn]), by go_num, rfl, HST.out.symm, by have := hb.size; omega, s1, s2, by simp; omega, S3.out, hb.alloc hb.size _⟩
            case measure => have := hb.size; simp [intOf] <;> omega
        · have hne : j ≠ k := hjk0
          subst ha0
          have hjk : (j : Int) ≤ (k : Int) := by omega
          have hjb : ((j : Int) == (k : Int)) = false := by simp only [beq_eq_false_iff_ne]; omega
          obtain ⟨f, rfl⟩ : ∃ g, f = g + 1 := ⟨f - 1, by omega⟩
          have hst := tgo_step (k := k) (f := f) (a := 0) (j := j) (s := s) (by omega)
          rw [ht] at hst
          obtain ⟨s1, s2, s3⟩ := tx_step (j := j) hA ha (by omega) hp
          obtain ⟨x, hx⟩ : ∃ x, dg1 0 = x := ⟨_, rfl⟩
          have hxr : x.toNat = 48 := by rw [← hx, dg1_nat]
          have hbt := fun W => byte_text x 48 (by rw [hxr]; rfl) W
          have z1 : (str [x]).size = 1 := str_size [x]
          have z2 : (str s).size = s.length := str_size s
          have z3 : ¬ (9223372036854775807 < 1 + s.length) := by omega
          have z4 : str [x] ++ str s = str (x :: s) := str_append [x] _
          rw [hx, if_neg (by omega)] at hst
          have HST := Lib.hid hst; have S3 := Lib.hid s3
          clear hst ht hp s3 hx hxr
          go_wp2
          go_round
          case rel => exact ⟨0, j + 1, f, x :: s, by first | rfl | (simp [sgn]), by go_num, rfl, HST.out.symm, by have := hb.size; omega, s1, s2, by simp; omega, S3.out, hb.alloc hb.size _⟩
          case measure => have := hb.size; simp [intOf] <;> omega
      · have hdone := tgo_done (k := k) (f := f) (a := a) (j := j) (s := s) (by omega)
        rw [ht] at hdone
        subst ha0
        have hjk2 : ¬ (j : Int) ≤ (k : Int) := by omega
        have HDN := Lib.hid (hdone.symm.trans HT.out)
        have p1 : (str s).size = s.length := str_size s
        have p2 : ¬ (9223372036854775807 < 1 + s.length) := by omega
        have p3 : (⟨#[45]⟩ : ByteArray) ++ str s = str (45 :: s) := str_append [45] s
        clear hdone ht hp
        go_wp2
        go_ret
        exact ⟨by rw [← HDN.out]; rfl, hb⟩
    · have han : a ≠ 0 := ha0
      by_cases hjk0 : j = k
      · by_cases hk0 : k = 0
        · have hj0 : j = 0 := by omega
          have hab : (((a : Nat) : Int) == 0) = false := by simp only [beq_eq_false_iff_ne]; omega
          have hjb : ((j : Int) == (k : Int)) = true := by simp only [beq_iff_eq]; omega
          have hkb : ¬ (0 : Int) < (k : Int) := by omega
          obtain ⟨f, rfl⟩ : ∃ g, f = g + 1 := ⟨f - 1, by omega⟩
          have hst := tgo_step (k := k) (f := f) (a := a) (j := j) (s := s) (by omega)
          rw [ht] at hst
          obtain ⟨s1, s2, s3⟩ := tx_step (j := j) hA ha (by omega) hp
          obtain ⟨x, hx⟩ : ∃ x, dg1 a = x := ⟨_, rfl⟩
          obtain ⟨r, hr⟩ : ∃ r, a % 10 = r := ⟨_, rfl⟩
          obtain ⟨q, hq⟩ : ∃ q, a / 10 = q := ⟨_, rfl⟩
          have hr9 : r ≤ 9 := by omega
          have hxr : x.toNat = 48 + r := by rw [← hx, dg1_nat, hr]
          have hbt := fun W => byte_text x (48 + (r : Int)) (by rw [hxr]; omega) W
          have e1 : (a : Int) % 10 = (r : Int) := by omega
          have e2 : (a : Int) / 10 = (q : Int) := by omega
          have z1 : (str [x]).size = 1 := str_size [x]
          have z2 : (str s).size = s.length := str_size s
          have z3 : ¬ (9223372036854775807 < 1 + s.length) := by omega
          have z4 : str [x] ++ str s = str (x :: s) := str_append [x] _
          rw [hx, if_neg (by omega), hq] at hst
          rw [hq] at s1 s3
          have HST := Lib.hid hst; have S3 := Lib.hid s3
          clear hst ht hp s3 hx hxr hjk0 hj0 hk0
          have HQ := Lib.hid hq; clear hq hr
          go_wp2
          go_round
          case rel => exact ⟨q, j + 1, f, x :: s, by first | rfl | (simp [sgn]), by go_num, rfl, HST.out.symm, by have := HQ.out; omega, s1, s2, by simp; omega, S3.out, hb.alloc hb.size _⟩
          case measure => have := HQ.out; simp [intOf] <;> omega
        · have hkp : 0 < k := by omega
          have hab : (((a : Nat) : Int) == 0) = false := by simp only [beq_eq_false_iff_ne]; omega
          subst hjk0
          have hkb : (0 : Int) < (j : Int) := by omega
          obtain ⟨f, rfl⟩ : ∃ g, f = g + 1 := ⟨f - 1, by omega⟩
          have hst := tgo_step (k := j) (f := f) (a := a) (j := j) (s := s) (by omega)
          rw [ht] at hst
          obtain ⟨s1, s2, s3⟩ := tx_step (j := j) hA ha (by omega) hp
          obtain ⟨x, hx⟩ : ∃ x, dg1 a = x := ⟨_, rfl⟩
          obtain ⟨r, hr⟩ : ∃ r, a % 10 = r := ⟨_, rfl⟩
          obtain ⟨q, hq⟩ : ∃ q, a / 10 = q := ⟨_, rfl⟩
          have hr9 : r ≤ 9 := by omega
          have hxr : x.toNat = 48 + r := by rw [← hx, dg1_nat, hr]
          have hbt := fun W => byte_text x (48 + (r : Int)) (by rw [hxr]; omega) W
          have e1 : (a : Int) % 10 = (r : Int) := by omega
          have e2 : (a : Int) / 10 = (q : Int) := by omega
          have z1 : (str [x]).size = 1 := str_size [x]
          have p1 : (str s).size = s.length := str_size s
          have p2 : ¬ (9223372036854775807 < 1 + s.length) := by omega
          have p3 : (⟨#[46]⟩ : ByteArray) ++ str s = str (46 :: s) := str_append [46] s
          have z2 : (str (46 :: s)).size = s.length + 1 := by rw [str_size]; rfl
          have z3 : ¬ (9223372036854775807 < 1 + (s.length + 1)) := by omega
          have z4 : str [x] ++ str (46 :: s) = str (x :: 46 :: s) := str_append [x] _
          rw [hx, if_pos ⟨rfl, by omega⟩, hq] at hst
          rw [hq] at s1 s3
          have HST := Lib.hid hst; have S3 := Lib.hid s3
          clear hst ht hp s3 hx hxr
          have HQ := Lib.hid hq; clear hq hr
          go_wp2
          go_round
          case rel => exact ⟨q, j + 1, f, x :: 46 :: s, by first | rfl | (simp [sgn]), by go_num, rfl, HST.out.symm, by have := HQ.out; omega, s1, s2, by simp; omega, S3.out, hb.alloc hb.size _⟩
          case measure => have := HQ.out; simp [intOf] <;> omega
      · have hne : j ≠ k := hjk0
        have hab : (((a : Nat) : Int) == 0) = false := by simp only [beq_eq_false_iff_ne]; omega
        have hjb : ((j : Int) == (k : Int)) = false := by simp only [beq_eq_false_iff_ne]; omega
        obtain ⟨f, rfl⟩ : ∃ g, f = g + 1 := ⟨f - 1, by omega⟩
        have hst := tgo_step (k := k) (f := f) (a := a) (j := j) (s := s) (by omega)
        rw [ht] at hst
        obtain ⟨s1, s2, s3⟩ := tx_step (j := j) hA ha (by omega) hp
        obtain ⟨x, hx⟩ : ∃ x, dg1 a = x := ⟨_, rfl⟩
        obtain ⟨r, hr⟩ : ∃ r, a % 10 = r := ⟨_, rfl⟩
        obtain ⟨q, hq⟩ : ∃ q, a / 10 = q := ⟨_, rfl⟩
        have hr9 : r ≤ 9 := by omega
        have hxr : x.toNat = 48 + r := by rw [← hx, dg1_nat, hr]
        have hbt := fun W => byte_text x (48 + (r : Int)) (by rw [hxr]; omega) W
        have e1 : (a : Int) % 10 = (r : Int) := by omega
        have e2 : (a : Int) / 10 = (q : Int) := by omega
        have z1 : (str [x]).size = 1 := str_size [x]
        have z2 : (str s).size = s.length := str_size s
        have z3 : ¬ (9223372036854775807 < 1 + s.length) := by omega
        have z4 : str [x] ++ str s = str (x :: s) := str_append [x] _
        rw [hx, if_neg (by omega), hq] at hst
        rw [hq] at s1 s3
        have HST := Lib.hid hst; have S3 := Lib.hid s3
        clear hst ht hp s3 hx hxr
        have HQ := Lib.hid hq; clear hq hr
        go_wp2
        go_round
        case rel => exact ⟨q, j + 1, f, x :: s, by first | rfl | (simp [sgn]), by go_num, rfl, HST.out.symm, by have := HQ.out; omega, s1, s2, by simp; omega, S3.out, hb.alloc hb.size _⟩
        case measure => have := HQ.out; simp [intOf] <;> omega
set_option maxRecDepth 100000 in
set_option maxHeartbeats 8000000 in
theorem text_true (A k : Nat) (w : World) (hA : A ≤ 9223372036854775808) (hk : k ≤ 9) (hm : true = true → A ≠ 0) (_ : true = false → A ≤ 9223372036854775807) :
    Calls Tryz.prog 14 #[.int .i64 (sgn true A), .int .i64 k] w fun e w' => e = .returned (.string (str (sgnL true ++ pointed k (padK (k + 1) (Lib.decDigits A))))) ∧ Below w.heap.size w w' := by
  have htext := tgo_text k A (A + k + 2) (by omega)
  have HT := Lib.hid htext
  clear htext
  have hneg : (-(A : Int) < 0) := by have := hm rfl; omega
  rw [sgn_true]
  clear hm
  go_enter Tryz.func14, Tryz.ntmps14
  go_wp2
  go_loopw [0, 6, 7] (fun nv sv jv wr => TxRel w k true A (A + k + 2) nv sv jv wr) (fun nv _ jv _ => (intOf nv).natAbs + (k + 1 - (intOf jv).toNat))
  case atStart => exact ⟨A, 0, A + k + 2, [], rfl, rfl, rfl, rfl, by omega, Nat.le_refl _, by omega, by simp, fun h => by omega, Below.refl _ _⟩
  case round =>
    obtain ⟨a, j, f, s, rfl, rfl, rfl, ht, hf, ha, hj, hs, hp, hb⟩ := hrel
    rw [sgn_true]
    by_cases ha0 : a = 0
    · by_cases hjk1 : j ≤ k
      · have hjk3 : j ≤ k := hjk1
        by_cases hjk0 : j = k
        · by_cases hk0 : k = 0
          · have hj0 : j = 0 := by omega
            subst ha0
            have hjk : (j : Int) ≤ (k : Int) := by omega
            have hjb : ((j : Int) == (k : Int)) = true := by simp only [beq_iff_eq]; omega
            have hkb : ¬ (0 : Int) < (k : Int) := by omega
            obtain ⟨f, rfl⟩ : ∃ g, f = g + 1 := ⟨f - 1, by omega⟩
            have hst := tgo_step (k := k) (f := f) (a := 0) (j := j) (s := s) (by omega)
            rw [ht] at hst
            obtain ⟨s1, s2, s3⟩ := tx_step (j := j) hA ha (by omega) hp
            obtain ⟨x, hx⟩ : ∃ x, dg1 0 = x := ⟨_, rfl⟩
            have hxr : x.toNat = 48 := by rw [← hx, dg1_nat]
            have hbt := fun W => byte_text x 48 (by rw [hxr]; rfl) W
            have z1 : (str [x]).size = 1 := str_size [x]
            have z2 : (str s).size = s.length := str_size s
            have z3 : ¬ (9223372036854775807 < 1 + s.length) := by omega
            have z4 : str [x] ++ str s = str (x :: s) := str_append [x] _
            rw [hx, if_neg (by omega)] at hst
            have HST := Lib.hid hst; have S3 := Lib.hid s3
            clear hst ht hp s3 hx hxr hjk0 hj0 hk0
            go_wp2
            go_round
            case rel => exact ⟨0, j + 1, f, x :: s, by first | rfl | (simp [sgn]), by go_num, rfl, HST.out.symm, by have := hb.size; omega, s1, s2, by simp; omega, S3.out, hb.alloc hb.size _⟩
            case measure => have := hb.size; simp [intOf] <;> omega
          · have hkp : 0 < k := by omega
            subst ha0
            have hjk : (j : Int) ≤ (k : Int) := by omega
            subst hjk0
            have hkb : (0 : Int) < (j : Int) := by omega
            obtain ⟨f, rfl⟩ : ∃ g, f = g + 1 := ⟨f - 1, by omega⟩
            have hst := tgo_step (k := j) (f := f) (a := 0) (j := j) (s := s) (by omega)
            rw [ht] at hst
            obtain ⟨s1, s2, s3⟩ := tx_step (j := j) hA ha (by omega) hp
            obtain ⟨x, hx⟩ : ∃ x, dg1 0 = x := ⟨_, rfl⟩
            have hxr : x.toNat = 48 := by rw [← hx, dg1_nat]
            have hbt := fun W => byte_text x 48 (by rw [hxr]; rfl) W
            have z1 : (str [x]).size = 1 := str_size [x]
            have p1 : (str s).size = s.length := str_size s
            have p2 : ¬ (9223372036854775807 < 1 + s.length) := by omega
            have p3 : (⟨#[46]⟩ : ByteArray) ++ str s = str (46 :: s) := str_append [46] s
            have z2 : (str (46 :: s)).size = s.length + 1 := by rw [str_size]; rfl
            have z3 : ¬ (9223372036854775807 < 1 + (s.length + 1)) := by omega
            have z4 : str [x] ++ str (46 :: s) = str (x :: 46 :: s) := str_append [x] _
            rw [hx, if_pos ⟨rfl, by omega⟩] at hst
            have HST := Lib.hid hst; have S3 := Lib.hid s3
            clear hst ht hp s3 hx hxr
            go_wp2
            go_round
            case rel => exact ⟨0, j + 1, f, x :: 46 :: s, by first | rfl | (simp [sgn]), by go_num, rfl, HST.out.symm, by have := hb.size; omega, s1, s2, by simp; omega, S3.out, hb.alloc hb.size _⟩
            case measure => have := hb.size; simp [intOf] <;> omega
        · have hne : j ≠ k := hjk0
          subst ha0
          have hjk : (j : Int) ≤ (k : Int) := by omega
          have hjb : ((j : Int) == (k : Int)) = false := by simp only [beq_eq_false_iff_ne]; omega
          obtain ⟨f, rfl⟩ : ∃ g, f = g + 1 := ⟨f - 1, by omega⟩
          have hst := tgo_step (k := k) (f := f) (a := 0) (j := j) (s := s) (by omega)
          rw [ht] at hst
          obtain ⟨s1, s2, s3⟩ := tx_step (j := j) hA ha (by omega) hp
          obtain ⟨x, hx⟩ : ∃ x, dg1 0 = x := ⟨_, rfl⟩
          have hxr : x.toNat = 48 := by rw [← hx, dg1_nat]
          have hbt := fun W => byte_text x 48 (by rw [hxr]; rfl) W
          have z1 : (str [x]).size = 1 := str_size [x]
          have z2 : (str s).size = s.length := str_size s
          have z3 : ¬ (9223372036854775807 < 1 + s.length) := by omega
          have z4 : str [x] ++ str s = str (x :: s) := str_append [x] _
          rw [hx, if_neg (by omega)] at hst
          have HST := Lib.hid hst; have S3 := Lib.hid s3
          clear hst ht hp s3 hx hxr
          go_wp2
          go_round
          case rel => exact ⟨0, j + 1, f, x :: s, by first | rfl | (simp [sgn]), by go_num, rfl, HST.out.symm, by have := hb.size; omega, s1, s2, by simp; omega, S3.out, hb.alloc hb.size _⟩
          case measure => have := hb.size; simp [intOf] <;> omega
      · have hdone := tgo_done (k := k) (f := f) (a := a) (j := j) (s := s) (by omega)
        rw [ht] at hdone
        subst ha0
        have hjk2 : ¬ (j : Int) ≤ (k : Int) := by omega
        have HDN := Lib.hid (hdone.symm.trans HT.out)
        have p1 : (str s).size = s.length := str_size s
        have p2 : ¬ (9223372036854775807 < 1 + s.length) := by omega
        have p3 : (⟨#[45]⟩ : ByteArray) ++ str s = str (45 :: s) := str_append [45] s
        clear hdone ht hp
        go_wp2
        go_ret
        exact ⟨by rw [← HDN.out]; rfl, hb⟩
    · by_cases hr0 : a % 10 = 0
      · have hrz : a % 10 = 0 := hr0
        by_cases hjk0 : j = k
        · by_cases hk0 : k = 0
          · have hj0 : j = 0 := by omega
            have hab : (((a : Nat) : Int) == 0) = false := by simp only [beq_eq_false_iff_ne]; omega
            have hjb : ((j : Int) == (k : Int)) = true := by simp only [beq_iff_eq]; omega
            have hkb : ¬ (0 : Int) < (k : Int) := by omega
            obtain ⟨f, rfl⟩ : ∃ g, f = g + 1 := ⟨f - 1, by omega⟩
            have hst := tgo_step (k := k) (f := f) (a := a) (j := j) (s := s) (by omega)
            rw [ht] at hst
            obtain ⟨s1, s2, s3⟩ := tx_step (j := j) hA ha (by omega) hp
            obtain ⟨x, hx⟩ : ∃ x, dg1 a = x := ⟨_, rfl⟩
            obtain ⟨r, hr⟩ : ∃ r, a % 10 = r := ⟨_, rfl⟩
            obtain ⟨q, hq⟩ : ∃ q, a / 10 = q := ⟨_, rfl⟩
            have hr9 : r ≤ 9 := by omega
            have hxr : x.toNat = 48 + r := by rw [← hx, dg1_nat, hr]
            have hbt := fun W => byte_text x 48 (by rw [hxr]; omega) W
            have e1 : Int.tmod (-(a : Int)) 10 = -(r : Int) := by rw [Int.neg_tmod, Int.tmod_eq_emod_of_nonneg (by omega)]; omega
            have e2 : Int.tdiv (-(a : Int)) 10 = -(q : Int) := by rw [Int.neg_tdiv, Int.tdiv_eq_ediv_of_nonneg (by omega)]; omega
            obtain rfl : r = 0 := by omega
            have z1 : (str [x]).size = 1 := str_size [x]
            have z2 : (str s).size = s.length := str_size s
            have z3 : ¬ (9223372036854775807 < 1 + s.length) := by omega
            have z4 : str [x] ++ str s = str (x :: s) := str_append [x] _
            rw [hx, if_neg (by omega), hq] at hst
            rw [hq] at s1 s3
            have HST := Lib.hid hst; have S3 := Lib.hid s3
            clear hst ht hp s3 hx hxr hjk0 hj0 hk0
            have HQ := Lib.hid hq; clear hq hr
            go_wp2
            go_round
            case rel => exact ⟨q, j + 1, f, x :: s, by first | rfl | (simp [sgn]), by go_num, rfl, HST.out.symm, by have := HQ.out; omega, s1, s2, by simp; omega, S3.out, hb.alloc hb.size _⟩
            case measure => have := HQ.out; simp [intOf] <;> omega
          · have hkp : 0 < k := by omega
            have hab : (((a : Nat) : Int) == 0) = false := by simp only [beq_eq_false_iff_ne]; omega
            subst hjk0
            have hkb : (0 : Int) < (j : Int) := by omega
            obtain ⟨f, rfl⟩ : ∃ g, f = g + 1 := ⟨f - 1, by omega⟩
            have hst := tgo_step (k := j) (f := f) (a := a) (j := j) (s := s) (by omega)
            rw [ht] at hst
            obtain ⟨s1, s2, s3⟩ := tx_step (j := j) hA ha (by omega) hp
            obtain ⟨x, hx⟩ : ∃ x, dg1 a = x := ⟨_, rfl⟩
            obtain ⟨r, hr⟩ : ∃ r, a % 10 = r := ⟨_, rfl⟩
            obtain ⟨q, hq⟩ : ∃ q, a / 10 = q := ⟨_, rfl⟩
            have hr9 : r ≤ 9 := by omega
            have hxr : x.toNat = 48 + r := by rw [← hx, dg1_nat, hr]
            have hbt := fun W => byte_text x 48 (by rw [hxr]; omega) W
            have e1 : Int.tmod (-(a : Int)) 10 = -(r : Int) := by rw [Int.neg_tmod, Int.tmod_eq_emod_of_nonneg (by omega)]; omega
            have e2 : Int.tdiv (-(a : Int)) 10 = -(q : Int) := by rw [Int.neg_tdiv, Int.tdiv_eq_ediv_of_nonneg (by omega)]; omega
            obtain rfl : r = 0 := by omega
            have z1 : (str [x]).size = 1 := str_size [x]
            have p1 : (str s).size = s.length := str_size s
            have p2 : ¬ (9223372036854775807 < 1 + s.length) := by omega
            have p3 : (⟨#[46]⟩ : ByteArray) ++ str s = str (46 :: s) := str_append [46] s
            have z2 : (str (46 :: s)).size = s.length + 1 := by rw [str_size]; rfl
            have z3 : ¬ (9223372036854775807 < 1 + (s.length + 1)) := by omega
            have z4 : str [x] ++ str (46 :: s) = str (x :: 46 :: s) := str_append [x] _
            rw [hx, if_pos ⟨rfl, by omega⟩, hq] at hst
            rw [hq] at s1 s3
            have HST := Lib.hid hst; have S3 := Lib.hid s3
            clear hst ht hp s3 hx hxr
            have HQ := Lib.hid hq; clear hq hr
            go_wp2
            go_round
            case rel => exact ⟨q, j + 1, f, x :: 46 :: s, by first | rfl | (simp [sgn]), by go_num, rfl, HST.out.symm, by have := HQ.out; omega, s1, s2, by simp; omega, S3.out, hb.alloc hb.size _⟩
            case measure => have := HQ.out; simp [intOf] <;> omega
        · have hne : j ≠ k := hjk0
          have hab : (((a : Nat) : Int) == 0) = false := by simp only [beq_eq_false_iff_ne]; omega
          have hjb : ((j : Int) == (k : Int)) = false := by simp only [beq_eq_false_iff_ne]; omega
          obtain ⟨f, rfl⟩ : ∃ g, f = g + 1 := ⟨f - 1, by omega⟩
          have hst := tgo_step (k := k) (f := f) (a := a) (j := j) (s := s) (by omega)
          rw [ht] at hst
          obtain ⟨s1, s2, s3⟩ := tx_step (j := j) hA ha (by omega) hp
          obtain ⟨x, hx⟩ : ∃ x, dg1 a = x := ⟨_, rfl⟩
          obtain ⟨r, hr⟩ : ∃ r, a % 10 = r := ⟨_, rfl⟩
          obtain ⟨q, hq⟩ : ∃ q, a / 10 = q := ⟨_, rfl⟩
          have hr9 : r ≤ 9 := by omega
          have hxr : x.toNat = 48 + r := by rw [← hx, dg1_nat, hr]
          have hbt := fun W => byte_text x 48 (by rw [hxr]; omega) W
          have e1 : Int.tmod (-(a : Int)) 10 = -(r : Int) := by rw [Int.neg_tmod, Int.tmod_eq_emod_of_nonneg (by omega)]; omega
          have e2 : Int.tdiv (-(a : Int)) 10 = -(q : Int) := by rw [Int.neg_tdiv, Int.tdiv_eq_ediv_of_nonneg (by omega)]; omega
          obtain rfl : r = 0 := by omega
          have z1 : (str [x]).size = 1 := str_size [x]
          have z2 : (str s).size = s.length := str_size s
          have z3 : ¬ (9223372036854775807 < 1 + s.length) := by omega
          have z4 : str [x] ++ str s = str (x :: s) := str_append [x] _
          rw [hx, if_neg (by omega), hq] at hst
          rw [hq] at s1 s3
          have HST := Lib.hid hst; have S3 := Lib.hid s3
          clear hst ht hp s3 hx hxr
          have HQ := Lib.hid hq; clear hq hr
          go_wp2
          go_round
          case rel => exact ⟨q, j + 1, f, x :: s, by first | rfl | (simp [sgn]), by go_num, rfl, HST.out.symm, by have := HQ.out; omega, s1, s2, by simp; omega, S3.out, hb.alloc hb.size _⟩
          case measure => have := HQ.out; simp [intOf] <;> omega
      · have hrp : a % 10 ≠ 0 := hr0
        by_cases hjk0 : j = k
        · by_cases hk0 : k = 0
          · have hj0 : j = 0 := by omega
            have hab : (((a : Nat) : Int) == 0) = false := by simp only [beq_eq_false_iff_ne]; omega
            have hjb : ((j : Int) == (k : Int)) = true := by simp only [beq_iff_eq]; omega
            have hkb : ¬ (0 : Int) < (k : Int) := by omega
            obtain ⟨f, rfl⟩ : ∃ g, f = g + 1 := ⟨f - 1, by omega⟩
            have hst := tgo_step (k := k) (f := f) (a := a) (j := j) (s := s) (by omega)
            rw [ht] at hst
            obtain ⟨s1, s2, s3⟩ := tx_step (j := j) hA ha (by omega) hp
            obtain ⟨x, hx⟩ : ∃ x, dg1 a = x := ⟨_, rfl⟩
            obtain ⟨r, hr⟩ : ∃ r, a % 10 = r := ⟨_, rfl⟩
            obtain ⟨q, hq⟩ : ∃ q, a / 10 = q := ⟨_, rfl⟩
            have hr9 : r ≤ 9 := by omega
            have hxr : x.toNat = 48 + r := by rw [← hx, dg1_nat, hr]
            have hbt := fun W => byte_text x (48 + (r : Int)) (by rw [hxr]; omega) W
            have e1 : Int.tmod (-(a : Int)) 10 = -(r : Int) := by rw [Int.neg_tmod, Int.tmod_eq_emod_of_nonneg (by omega)]; omega
            have e2 : Int.tdiv (-(a : Int)) 10 = -(q : Int) := by rw [Int.neg_tdiv, Int.tdiv_eq_ediv_of_nonneg (by omega)]; omega
            have e3 : (-(r : Int) < 0) := by omega
            have z1 : (str [x]).size = 1 := str_size [x]
            have z2 : (str s).size = s.length := str_size s
            have z3 : ¬ (9223372036854775807 < 1 + s.length) := by omega
            have z4 : str [x] ++ str s = str (x :: s) := str_append [x] _
            rw [hx, if_neg (by omega), hq] at hst
            rw [hq] at s1 s3
            have HST := Lib.hid hst; have S3 := Lib.hid s3
            clear hst ht hp s3 hx hxr hjk0 hj0 hk0
            have HQ := Lib.hid hq; clear hq hr
            go_wp2
            go_round
            case rel => exact ⟨q, j + 1, f, x :: s, by first | rfl | (simp [sgn]), by go_num, rfl, HST.out.symm, by have := HQ.out; omega, s1, s2, by simp; omega, S3.out, hb.alloc hb.size _⟩
            case measure => have := HQ.out; simp [intOf] <;> omega
          · have hkp : 0 < k := by omega
            have hab : (((a : Nat) : Int) == 0) = false := by simp only [beq_eq_false_iff_ne]; omega
            subst hjk0
            have hkb : (0 : Int) < (j : Int) := by omega
            obtain ⟨f, rfl⟩ : ∃ g, f = g + 1 := ⟨f - 1, by omega⟩
            have hst := tgo_step (k := j) (f := f) (a := a) (j := j) (s := s) (by omega)
            rw [ht] at hst
            obtain ⟨s1, s2, s3⟩ := tx_step (j := j) hA ha (by omega) hp
            obtain ⟨x, hx⟩ : ∃ x, dg1 a = x := ⟨_, rfl⟩
            obtain ⟨r, hr⟩ : ∃ r, a % 10 = r := ⟨_, rfl⟩
            obtain ⟨q, hq⟩ : ∃ q, a / 10 = q := ⟨_, rfl⟩
            have hr9 : r ≤ 9 := by omega
            have hxr : x.toNat = 48 + r := by rw [← hx, dg1_nat, hr]
            have hbt := fun W => byte_text x (48 + (r : Int)) (by rw [hxr]; omega) W
            have e1 : Int.tmod (-(a : Int)) 10 = -(r : Int) := by rw [Int.neg_tmod, Int.tmod_eq_emod_of_nonneg (by omega)]; omega
            have e2 : Int.tdiv (-(a : Int)) 10 = -(q : Int) := by rw [Int.neg_tdiv, Int.tdiv_eq_ediv_of_nonneg (by omega)]; omega
            have e3 : (-(r : Int) < 0) := by omega
            have z1 : (str [x]).size = 1 := str_size [x]
            have p1 : (str s).size = s.length := str_size s
            have p2 : ¬ (9223372036854775807 < 1 + s.length) := by omega
            have p3 : (⟨#[46]⟩ : ByteArray) ++ str s = str (46 :: s) := str_append [46] s
            have z2 : (str (46 :: s)).size = s.length + 1 := by rw [str_size]; rfl
            have z3 : ¬ (9223372036854775807 < 1 + (s.length + 1)) := by omega
            have z4 : str [x] ++ str (46 :: s) = str (x :: 46 :: s) := str_append [x] _
            rw [hx, if_pos ⟨rfl, by omega⟩, hq] at hst
            rw [hq] at s1 s3
            have HST := Lib.hid hst; have S3 := Lib.hid s3
            clear hst ht hp s3 hx hxr
            have HQ := Lib.hid hq; clear hq hr
            go_wp2
            go_round
            case rel => exact ⟨q, j + 1, f, x :: 46 :: s, by first | rfl | (simp [sgn]), by go_num, rfl, HST.out.symm, by have := HQ.out; omega, s1, s2, by simp; omega, S3.out, hb.alloc hb.size _⟩
            case measure => have := HQ.out; simp [intOf] <;> omega
        · have hne : j ≠ k := hjk0
          have hab : (((a : Nat) : Int) == 0) = false := by simp only [beq_eq_false_iff_ne]; omega
          have hjb : ((j : Int) == (k : Int)) = false := by simp only [beq_eq_false_iff_ne]; omega
          obtain ⟨f, rfl⟩ : ∃ g, f = g + 1 := ⟨f - 1, by omega⟩
          have hst := tgo_step (k := k) (f := f) (a := a) (j := j) (s := s) (by omega)
          rw [ht] at hst
          obtain ⟨s1, s2, s3⟩ := tx_step (j := j) hA ha (by omega) hp
          obtain ⟨x, hx⟩ : ∃ x, dg1 a = x := ⟨_, rfl⟩
          obtain ⟨r, hr⟩ : ∃ r, a % 10 = r := ⟨_, rfl⟩
          obtain ⟨q, hq⟩ : ∃ q, a / 10 = q := ⟨_, rfl⟩
          have hr9 : r ≤ 9 := by omega
          have hxr : x.toNat = 48 + r := by rw [← hx, dg1_nat, hr]
          have hbt := fun W => byte_text x (48 + (r : Int)) (by rw [hxr]; omega) W
          have e1 : Int.tmod (-(a : Int)) 10 = -(r : Int) := by rw [Int.neg_tmod, Int.tmod_eq_emod_of_nonneg (by omega)]; omega
          have e2 : Int.tdiv (-(a : Int)) 10 = -(q : Int) := by rw [Int.neg_tdiv, Int.tdiv_eq_ediv_of_nonneg (by omega)]; omega
          have e3 : (-(r : Int) < 0) := by omega
          have z1 : (str [x]).size = 1 := str_size [x]
          have z2 : (str s).size = s.length := str_size s
          have z3 : ¬ (9223372036854775807 < 1 + s.length) := by omega
          have z4 : str [x] ++ str s = str (x :: s) := str_append [x] _
          rw [hx, if_neg (by omega), hq] at hst
          rw [hq] at s1 s3
          have HST := Lib.hid hst; have S3 := Lib.hid s3
          clear hst ht hp s3 hx hxr
          have HQ := Lib.hid hq; clear hq hr
          go_wp2
          go_round
          case rel => exact ⟨q, j + 1, f, x :: s, by first | rfl | (simp [sgn]), by go_num, rfl, HST.out.symm, by have := HQ.out; omega, s1, s2, by simp; omega, S3.out, hb.alloc hb.size _⟩
          case measure => have := HQ.out; simp [intOf] <;> omega
theorem text_any (n : Int) (k : Nat) (w : World) (h1 : -9223372036854775808 ≤ n) (h2 : n ≤ 9223372036854775807) (hk : k ≤ 9) :
    Calls Tryz.prog 14 #[.int .i64 n, .int .i64 k] w fun e w' => e = .returned (.string (str (ftext n k))) ∧ Below w.heap.size w w' := by
  unfold ftext
  by_cases hn : n < 0
  · have h := text_true n.natAbs k w (by omega) hk (fun _ => by omega) (fun h => by cases h)
    rw [show sgn true n.natAbs = n by rw [sgn_true]; omega] at h
    rw [decide_eq_true hn]; exact h
  · have h := text_false n.natAbs k w (by omega) hk (fun h => by cases h) (fun _ => by omega)
    rw [show sgn false n.natAbs = n by rw [sgn_false]; omega] at h
    rw [decide_eq_false hn]; exact h
end Go.Proofs.YtbeohedkeklaiaaGreatDoor
/- DeciTexts and DeciParses, walked. -/
namespace Go.Proofs.YtbeohedkeklaiaaGreatDoor
open Go.RowKit Go.MagM Go.MagS
theorem scl_min (sc : Int) : min (max sc 0) 9 = ((scl sc : Nat) : Int) := by unfold scl; omega
set_option maxRecDepth 100000 in
set_option maxHeartbeats 4000000 in
theorem DeciTexts_walk (n sc : Int) (w : World) (h1 : -9223372036854775808 ≤ n) (h2 : n < 9223372036854775808) (ht : Tens w) :
    Calls Tryz.prog 4 #[.int .i64 n, .int .i64 sc] w fun e w' => e = .returned (.bool true) ∧ Below w.heap.size w w' := by
  obtain ⟨k, hk⟩ : ∃ k, scl sc = k := ⟨_, rfl⟩
  have hk9 : k ≤ 9 := hk ▸ scl_le sc
  have hmin : min (max sc 0) 9 = (k : Int) := hk ▸ scl_min sc
  have hpf := parse_ftext (x := n) (k := k) (by have : (10 : Nat) ^ 19 = 10000000000000000000 := rfl; omega) hk9
  obtain ⟨s, hs⟩ : ∃ s, ftext n k = s := ⟨_, rfl⟩
  rw [hs] at hpf
  have cT := fun w ht => Text_any n sc w h1 (by omega) ht
  have ct := fun w => text_any n k w h1 (by omega) hk9
  have cF := fun va w ha ht => Fixed_any va 1 n sc w (by omega) ha ht
  have cP := fun w => parse_any s sc w
  simp only [hk, hs] at cT ct cF cP
  have HK := Lib.hid hk; have HS := Lib.hid hs
  clear hk hs
  by_cases hfar : 2147483648 < n.natAbs
  · rw [if_pos hfar] at hpf
    simp only [hpf] at cP
    have CT := Lib.hid cT; have CT2 := Lib.hid ct; have CF := Lib.hid cF; have CP := Lib.hid cP
    clear cT ct cF cP hpf
    by_cases hp : 2147483648 < n
    · have h3 : ¬ n < -2147483648 := by omega
      go_enter Tryz.func4, Tryz.ntmps4
      go_wp2_with (first
        | (go_at_call 10; refine (fit_ok _ ht).mono ?_; rintro e w1 ⟨rfl, hb1⟩; have ht1 := ht.below hb1)
        | (go_at_call 13; refine (CT.out _ ht1).mono ?_; rintro e w2 ⟨rfl, hb2⟩; have ht2 := ht1.below hb2; have hB2 := hb1.trans (hb2.mono hb1.size))
        | (go_at_call 14; refine (CT2.out _).mono ?_; rintro e w3 ⟨rfl, hb3⟩; have ht3 := ht2.below hb3; have hB3 := hB2.trans (hb3.mono hB2.size))
        | (go_at_call 16; refine (nOf_any n h1 (by omega) _).mono ?_; rintro e w4 ⟨m, ao, kk, c, rfl, hn, hb4⟩; have ht4 := ht3.below hb4; have hB4 := hB3.trans (hb4.mono hB3.size))
        | (go_at_call 15; refine (CF.out _ _ hn.num ht4).mono ?_; rintro e w5 ⟨rfl, hb5⟩; have hB5 := hB4.trans (hb5.mono hB4.size))
        | (go_at_call 11; refine (CP.out _).mono ?_; rintro e w6 ⟨rfl, hb6⟩; have hB6 := hB5.trans (hb6.mono hB5.size)))
      go_ret
      exact ⟨rfl, hB6⟩
    · have h3 : n < -2147483648 := by omega
      go_enter Tryz.func4, Tryz.ntmps4
      go_wp2_with (first
        | (go_at_call 10; refine (fit_ok _ ht).mono ?_; rintro e w1 ⟨rfl, hb1⟩; have ht1 := ht.below hb1)
        | (go_at_call 13; refine (CT.out _ ht1).mono ?_; rintro e w2 ⟨rfl, hb2⟩; have ht2 := ht1.below hb2; have hB2 := hb1.trans (hb2.mono hb1.size))
        | (go_at_call 14; refine (CT2.out _).mono ?_; rintro e w3 ⟨rfl, hb3⟩; have ht3 := ht2.below hb3; have hB3 := hB2.trans (hb3.mono hB2.size))
        | (go_at_call 16; refine (nOf_any n h1 (by omega) _).mono ?_; rintro e w4 ⟨m, ao, kk, c, rfl, hn, hb4⟩; have ht4 := ht3.below hb4; have hB4 := hB3.trans (hb4.mono hB3.size))
        | (go_at_call 15; refine (CF.out _ _ hn.num ht4).mono ?_; rintro e w5 ⟨rfl, hb5⟩; have hB5 := hB4.trans (hb5.mono hB4.size))
        | (go_at_call 11; refine (CP.out _).mono ?_; rintro e w6 ⟨rfl, hb6⟩; have hB6 := hB5.trans (hb6.mono hB5.size)))
      go_ret
      exact ⟨rfl, hB6⟩
  · rw [if_neg hfar] at hpf
    simp only [hpf] at cP
    have CT := Lib.hid cT; have CT2 := Lib.hid ct; have CF := Lib.hid cF; have CP := Lib.hid cP
    clear cT ct cF cP hpf
    have h3 : ¬ n < -2147483648 := by omega
    have h4 : ¬ 2147483648 < n := by omega
    go_enter Tryz.func4, Tryz.ntmps4
    go_wp2_with (first
      | (go_at_call 10; refine (fit_ok _ ht).mono ?_; rintro e w1 ⟨rfl, hb1⟩; have ht1 := ht.below hb1)
      | (go_at_call 13; refine (CT.out _ ht1).mono ?_; rintro e w2 ⟨rfl, hb2⟩; have ht2 := ht1.below hb2; have hB2 := hb1.trans (hb2.mono hb1.size))
      | (go_at_call 14; refine (CT2.out _).mono ?_; rintro e w3 ⟨rfl, hb3⟩; have ht3 := ht2.below hb3; have hB3 := hB2.trans (hb3.mono hB2.size))
      | (go_at_call 16; refine (nOf_any n h1 (by omega) _).mono ?_; rintro e w4 ⟨m, ao, kk, c, rfl, hn, hb4⟩; have ht4 := ht3.below hb4; have hB4 := hB3.trans (hb4.mono hB3.size))
      | (go_at_call 15; refine (CF.out _ _ hn.num ht4).mono ?_; rintro e w5 ⟨rfl, hb5⟩; have hB5 := hB4.trans (hb5.mono hB4.size))
      | (go_at_call 11; refine (CP.out _).mono ?_; rintro e w6 ⟨rfl, hb6⟩; have hB6 := hB5.trans (hb6.mono hB5.size)))
    go_ret
    exact ⟨rfl, hB6⟩
end Go.Proofs.YtbeohedkeklaiaaGreatDoor
