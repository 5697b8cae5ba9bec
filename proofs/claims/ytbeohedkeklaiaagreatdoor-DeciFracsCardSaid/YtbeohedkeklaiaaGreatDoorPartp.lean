/- slices.Backward over words: what it hands to a loop. -/
import Derived.RangeFuncBox
import Derived.RangeFuncCalls
import Derived.RangeFuncLeaves
import Derived.Shelf.Abstract
import Derived.Shelf.RegionOpen
import Derived.WalkKit
import Derived.OwnWalkIn
import Derived.TacticsInMore
import Derived.LoopNIn
import Derived.LoopIn
import Derived.Test.YtbeohedkeklaiaaGreatDoorDeciF
import Derived.Test.YtbeohedkeklaiaaGreatDoorPartg
namespace Go.Proofs.YtbeohedkeklaiaaGreatDoor
open Go.RowKit Go.Shelf Go.MagS
attribute [local go_sem] Oper.semAt_some
/-- A word that is no more than a block. -/
abbrev Blk := { n : Nat // n < 10000000000000000000 }
/-- What has come when k rounds are over: the words from the end on. -/
def backs (m : Nat) (g : Nat → Blk) (k : Nat) : List (Nat × Blk) := (List.range k).map fun j => (m - 1 - j, g (m - 1 - j))
theorem backs_succ (m : Nat) (g : Nat → Blk) (k : Nat) : backs m g (k + 1) = backs m g k ++ [(m - 1 - k, g (m - 1 - k))] := by simp [backs, List.range_succ]
theorem backs_length (m : Nat) (g : Nat → Blk) (k : Nat) : (backs m g k).length = k := by simp [backs]
/-- What the loop's left sides are. -/
def encB (x : Nat × Blk) : Array Value := #[.int .i64 (x.1 : Int), .int .u64 (x.2.1 : Int)]
/-- These blocks stay. -/
def KeepP (Pb : Nat → Prop) (W W' : World) : Prop := ∀ b, Pb b → W'.heap[b]? = W.heap[b]?
theorem KeepP.refl (Pb : Nat → Prop) (W : World) : KeepP Pb W W := fun _ _ => rfl
theorem KeepP.trans {Pb : Nat → Prop} {A B C : World} (h : KeepP Pb A B) (k : KeepP Pb B C) : KeepP Pb A C := fun b hb => (k b hb).trans (h b hb)
theorem KeepP.cell {Pb : Nat → Prop} {A B : World} (h : KeepP Pb A B) {b o : Nat} (hb : Pb b) : B.cell? ⟨b, o, none⟩ = A.cell? ⟨b, o, none⟩ := World.cell?_of_block (a := ⟨b, o, none⟩) (h b hb)
theorem KeepP.of_below {Pb : Nat → Prop} {m : Nat} {A B : World} (h : Below m A B) (hp : ∀ b, Pb b → b < m) : KeepP Pb A B := fun b hb => h.block b (hp b hb)
set_option maxRecDepth 100000 in
set_option maxHeartbeats 2000000 in
theorem back1_in (F : Fence) (n : Nat) (h8 : F.fn 108) (hro : F.round = none) (hn : 1 ≤ n) (l Bs : Nat) (Pb : Nat → Prop) (ao : Option Addr) (len cap : Nat) (g : Nat → Blk) (hreach : len ≤ 1000000) (J Jx : List (Nat × Blk) → World → Prop)
    (hY : ∀ pre x W, J pre W → pre.length < len → YieldAt F (n - 1) Tryz.prog l (encB x) W fun e W' =>
      (e = .returned (.bool true) ∧ J (pre ++ [x]) W' ∧ KeepP Pb W W') ∨ (e = .returned (.bool false) ∧ Jx (pre ++ [x]) W'))
    (W : World) (hBs : W.cell? ⟨Bs, 0, none⟩ = some (.slice ao len cap)) (hBn : Pb Bs) (hc : ∀ j, j < len → ∃ b o, ao = some ⟨b, o, none⟩ ∧ Pb b ∧ W.cell? ⟨b, o + j, none⟩ = some (.int .u64 ((g j).1 : Int))) (h0 : J [] W) :
    CallsIn F n Tryz.prog 108 #[.func (.yield l) #[] #[], .pointer (some ⟨Bs, 0, none⟩)] W fun e W' => (∃ v, e = .returned v) ∧
      ((∃ ys, ys = backs len g len ∧ J ys W') ∨ (∃ pre, (∃ k, k ≤ len ∧ pre = backs len g k) ∧ Jx pre W')) := by
  refine callsIn_of_wp Tryz.func108 rfl h8 ?_ hro
  simp only [Tryz.ntmps108, List.size_toArray, List.length_cons, List.length_nil, Nat.reduceAdd, Nat.reduceSub, Array.replicate_succ, Array.replicate_zero, List.push_toArray, List.append_toArray, List.nil_append, List.cons_append]
  gi_wp2
  gi_loopw [3] (fun i wr => ∃ k : Nat, ∃ z : Int, k ≤ len ∧ z = (len : Int) - 1 - (k : Int) ∧ i = .int .i64 z ∧ J (backs len g k) wr ∧ KeepP Pb W wr)
    (fun i _ => (intOf i + 1).toNat)
  case atStart => exact ⟨0, _, Nat.zero_le _, by simp, rfl, h0, KeepP.refl _ _⟩
  case round =>
    obtain ⟨k, z, hk, hz, rfl, hJs, hnx⟩ := hrel
    have hcs : wr.cell? ⟨Bs, 0, none⟩ = some (.slice ao len cap) := (hnx.cell hBn).trans hBs
    by_cases hlt : k < len
    · obtain ⟨q, hq⟩ : ∃ q, len - 1 - k = q := ⟨_, rfl⟩
      obtain rfl : z = (q : Int) := by omega
      have hql : q < len := by omega
      obtain ⟨b, o, rfl, hb, hcx⟩ := hc q hql
      have hcx' : wr.cell? ⟨b, o + q, none⟩ = some (.int .u64 ((g q).1 : Int)) := (hnx.cell hb).trans hcx
      obtain ⟨fn, tmps, assign, body, hy, hR⟩ := hY _ (q, g q) wr hJs (by rw [backs_length]; exact hlt)
      have hsucc : backs len g (k + 1) = backs len g k ++ [(q, g q)] := by rw [backs_succ, hq]
      have HS := Lib.hid hsucc; have HC := Lib.hid hc
      have HZ := Lib.hid hz
      clear hsucc hq hc hY hz
      obtain ⟨x, hx⟩ : ∃ x, (g q).1 = x := ⟨_, rfl⟩
      unfold encB at hy
      dsimp only at hy
      rw [hx] at hy hcx'
      have HX := Lib.hid hx; clear hx
      gi_wp2
      refine hR.mono ?_
      rintro e W3 (⟨rfl, hJ3, hk3⟩ | ⟨rfl, hJx3⟩)
      · gi_wp2
        go_roundw
        case rel => exact ⟨k + 1, (q : Int) - 1, by omega, by have := HZ.out; omega, by simp, by rw [HS.out]; exact hJ3, hnx.trans hk3⟩
        case measure => simp [intOf]
      · gi_wp2
        refine bodyPost_ret (results_none rfl _ _ _) rfl ?_
        exact ⟨⟨_, rfl⟩, .inr ⟨_, ⟨k + 1, by omega, HS.out.symm⟩, hJx3⟩⟩
    · obtain rfl : k = len := by omega
      obtain rfl : z = -1 := by omega
      gi_wp2
      go_end0
      exact ⟨⟨_, rfl⟩, .inl ⟨_, rfl, hJs⟩⟩
set_option maxHeartbeats 1000000 in
theorem backward_in (F : Fence) (n : Nat) (h6 : F.fn 78) (hro : F.round = none) (a : Option Addr) (len cap : Nat) (w : World) :
    CallsIn F n Tryz.prog 78 #[.slice a len cap] w fun e w' => e = .returned (.func (.func 108) #[] #[.pointer (some ⟨w.heap.size, 0, none⟩)]) ∧ w' = w.alloc (.cells #[.slice a len cap] 29) := by
  refine callsIn_of_wp Tryz.func78 rfl h6 ?_ hro
  simp only [Tryz.ntmps78, List.size_toArray, List.length_cons, List.length_nil, Nat.reduceAdd, Nat.reduceSub, Array.replicate_succ, Array.replicate_zero, List.push_toArray, List.append_toArray, List.nil_append, List.cons_append]
  gi_wp2
  go_ret
  exact ⟨rfl, rfl⟩
theorem back_stops (F : Fence) (n : Nat) (h8 : F.fn 108) (hro : F.round = none) (hn : 1 ≤ n) (Bs : Nat) (Pb : Nat → Prop) (ao : Option Addr) (len cap : Nat) (g : Nat → Blk) (hreach : len ≤ 1000000) (w : World) (hBn : Pb Bs) (hP : ∀ b, Pb b → b < w.heap.size)
    (hc : w.cell? ⟨Bs, 0, none⟩ = some (.slice ao len cap)) (hI : ∀ j, j < len → ∃ b o, ao = some ⟨b, o, none⟩ ∧ Pb b ∧ w.cell? ⟨b, o + j, none⟩ = some (.int .u64 ((g j).1 : Int))) :
    SeqStopsK F n Tryz.prog 108 #[.pointer (some ⟨Bs, 0, none⟩)] encB (KeepP Pb) (fun ys => ys = backs len g len) (fun pre => ∃ k, k ≤ len ∧ pre = backs len g k) len w := fun l J Jx W hW _ _ hY h0 => by
  exact back1_in F n h8 hro hn l Bs Pb ao len cap g hreach J Jx hY W ((hW.cell (p := ⟨Bs, 0, none⟩) (hP _ hBn)).trans hc) hBn (fun j hj => by
    obtain ⟨b, o, h1, h2, h3⟩ := hI j hj
    exact ⟨b, o, h1, h2, (hW.cell (p := ⟨b, o + j, none⟩) (hP _ h2)).trans h3⟩) h0
end Go.Proofs.YtbeohedkeklaiaaGreatDoor
/- A drawn region in a round of a loop over a function, by hand. Over any program. -/
namespace Go.MagS
open Go Go.RowKit
section
variable {P : Program} {l n : Nat} {md : Region.Mode} {ops : Array Oper} {Q : Exit → Act → World → Prop}
/-- What is ready, each in its turn. -/
theorem rnd_ready (rs : List Nat) {fuel : Nat} {listed : Array Bool} {a : Act} {w : World} (hr : Region.ready md ops listed = rs) (hne : rs ≠ [])
    (h : ∀ i ∈ rs, wpOpIn (Fence.wide.inRound l) n P ops Q i (wpAnyIn (Fence.wide.inRound l) n P md ops Q fuel (listed.setIfInBounds i true)) a w) : wpAnyIn (Fence.wide.inRound l) n P md ops Q (fuel + 1) listed a w := wpAnyIn_all hr hne h
/-- An operation that yields a value. -/
theorem rnd_value {i : Nat} {o : Oper} {v : Value} {K : Act → World → Prop} {a : Act} {w w' : World} (ho : ops[i]? = some o) (hg : o.guard = none) (hd : ∀ c, o.op ≠ .defer c)
    (hrun : (execOp a.eval o).run P w = .ok (.value v) w') (h : K (a.put o.dst v) w') : wpOpIn (Fence.wide.inRound l) n P ops Q i K a w := by
  unfold wpOpIn
  rw [ho]
  simp only [Region.wanted, hg, if_true]
  refine ⟨fun _ _ => trivial, ?_⟩
  rw [show (Fence.wide.inRound l).round = some l from rfl, Oper.semAt_some l _ _ hd, hrun]
  exact h
/-- An operation that yields none. -/
theorem rnd_skip {i : Nat} {o : Oper} {K : Act → World → Prop} {a : Act} {w w' : World} (ho : ops[i]? = some o) (hg : o.guard = none) (hd : ∀ c, o.op ≠ .defer c)
    (hrun : (execOp a.eval o).run P w = .ok .skip w') (h : K (a.put o.dst undef) w') : wpOpIn (Fence.wide.inRound l) n P ops Q i K a w := by
  unfold wpOpIn
  rw [ho]
  simp only [Region.wanted, hg, if_true]
  refine ⟨fun _ _ => trivial, ?_⟩
  rw [show (Fence.wide.inRound l).round = some l from rfl, Oper.semAt_some l _ _ hd, hrun]
  exact h
/-- A call. -/
theorem rnd_call {i f : Nat} {o : Oper} {args : Array Value} {R : Ending → World → Prop} {K : Act → World → Prop} {a : Act} {w : World} (ho : ops[i]? = some o) (hg : o.guard = none) (hd : ∀ c, o.op ≠ .defer c)
    (hrun : (execOp a.eval o).run P w = .ok (.enter f args) w) (hc : Calls P f args w R) (h : ∀ e w', R e w' → ∃ v, e = .returned v ∧ K (a.put o.dst v) w') : wpOpIn (Fence.wide.inRound l) n P ops Q i K a w := by
  unfold wpOpIn
  rw [ho]
  simp only [Region.wanted, hg, if_true]
  refine ⟨fun _ _ => trivial, ?_⟩
  rw [show (Fence.wide.inRound l).round = some l from rfl, Oper.semAt_some l _ _ hd, hrun]
  rw [Oper.uponIn_enter]
  refine ⟨(fun h => by cases h), ?_⟩
  refine (CallsIn.inRound l (callsIn_wide.2 hc)).mono ?_
  intro e w' hR
  obtain ⟨v, rfl, hk⟩ := h e w' hR
  exact hk
theorem run_append_op {P : Program} {a : Act} {o : Oper} {s x : Operand} {t u : TypeId} {v1 v2 r : Value} {w w' : World} (hop : o.op = .call { callee := .builtin .append, args := #[s, x], argTypes := #[t, u] })
    (hs : a.eval s = v1) (hx : a.eval x = v2) (hrun : (Builtin.append_ #[t, u] o.type #[v1, v2]).run P w = .ok r w') : (execOp a.eval o).run P w = .ok (.value r) w' := by
  simp [execOp, hop, resolve, invoke, builtin, hs, hx, hrun, Result.andThen]
end
end Go.MagS
/- Division by one word: the quotient lies in a new block. -/
namespace Go.Proofs.YtbeohedkeklaiaaGreatDoor
open Go.RowKit Go.MagM
set_option maxHeartbeats 1000000 in
theorem divWord_new (ao : Option Addr) (n c x : Nat) (w : World) (hn : n ≤ 8000000000) (f : Nat → Nat) (hx0 : 0 < x) (hx : x < B) (hr : Reads w ao n f) :
    Calls Tryz.prog 90 #[.slice ao n c, .int .u64 x] w fun e w' => ∃ m, e = .returned (.tuple #[.slice (some ⟨w.heap.size, 0, none⟩) m n, .int .u64 ((V f n % x : Nat) : Int)]) ∧ RMag w' (.slice (some ⟨w.heap.size, 0, none⟩) m n) n (V f n / x) ∧ Below w.heap.size w w' := by
  have HR := Lib.hid hr; clear hr
  go_enter Tryz.func90, Tryz.ntmps90
  go_wp2_with (first
    | (at_make; refine wpList_make_words rfl (.tmp 10) (.tmp 10) 30 rfl 49 under_words info_u64 .i64 .i64 _ _ n rfl rfl rfl rfl (by omega) ?_; intro w1 hh1 hb1 hs1; replace hh1 := Lib.hid hh1))
  go_loopw [7, 8] (fun rr i wr => ∃ k r : Nat, ∃ qf : Nat → Nat, k ≤ n ∧ i = .int .i64 ((k : Int) - 1) ∧ rr = .int .u64 r ∧ r < x ∧ Held wr w.heap.size 0 n qf ∧ Turn w.heap.size 0 n w1 wr ∧ V (fun i => f (k + i)) (n - k) = V (fun i => qf (k + i)) (n - k) * x + r) (fun _ i _ => (intOf i + 1).toNat)
  case atStart => exact ⟨n, 0, fun _ => 0, Nat.le_refl _, rfl, rfl, hx0, hh1.out, Turn.refl _ _ _ _, by rw [Nat.sub_self]; simp [V]⟩
  case round =>
    obtain ⟨k, r, qf, hk, rfl, rfl, hrx, hfr, htr, hV⟩ := hrel
    have HFR := Lib.hid hfr; have HTR := Lib.hid htr; have HV := Lib.hid hV
    clear hfr htr hV
    have hbr : Below w.heap.size w wr := HTR.out.below hb1 (Nat.le_refl _) (by omega)
    cases k with
    | zero =>
      go_wp2_with (go_at_call 81; refine (trim_any _ _ _ _ (by omega) qf (Nat.le_refl _) HFR.out.reads).mono ?_; rintro e w4 ⟨rfl, rfl⟩)
      have hv : V f n = V qf n * x + r := by have := HV.out; simpa using this
      have h1 : V f n / x = V qf n := by rw [hv, Nat.mul_comm, Nat.mul_add_div hx0, Nat.div_eq_of_lt hrx, Nat.add_zero]
      have h2 : V f n % x = r := by rw [hv, Nat.mul_comm, Nat.mul_add_mod, Nat.mod_eq_of_lt hrx]
      have H1 := Lib.hid h1; have H2 := Lib.hid h2; clear h1 h2 hv
      go_ret2
      rw [H1.out, H2.out]
      exact ⟨_, rfl, RMag.of_trim HFR.out.reads (Nat.le_refl n), hbr⟩
    | succ k =>
      obtain ⟨ab, aoff, rfl, hac, haB⟩ := (HR.out.below hbr) k (by omega)
      obtain ⟨hqc, hqf, _⟩ := HFR.out k (by omega)
      rw [Nat.zero_add] at hqc hqf
      have hk1 : ((k + 1 : Nat) : Int) - 1 = (k : Int) := by omega
      rw [hk1]; clear hk1
      have hdB : (r * B + f k) / x < B := full_quot_lt haB hrx
      have hrx' : (r * B + f k) % x < x := Nat.mod_lt _ hx0
      have hdiv := fun w => div64_any r (f k) x w haB hx hrx
      obtain ⟨d, hd⟩ : ∃ d, (r * B + f k) / x = d := ⟨_, rfl⟩
      obtain ⟨r2, hr2⟩ : ∃ r2, (r * B + f k) % x = r2 := ⟨_, rfl⟩
      rw [hd] at hdB; rw [hr2] at hrx'; simp only [hd, hr2] at hdiv
      have HDIV := Lib.hid hdiv; have HD := Lib.hid hd; have HR2 := Lib.hid hr2
      clear hdiv hd hr2
      go_wp2_with fail
      refine (HDIV.out _).mono ?_
      rintro e w2 ⟨rfl, hw⟩
      obtain ⟨dq, rfl⟩ := hw.out
      go_wp2
      refine ⟨⟨k, r2, upd qf k d, by omega, rfl, rfl, hrx', ?_, ?_, ?_⟩, by simp [intOf]⟩
      · have := (HFR.out.drewN dq).setCell (k := k) hdB (by omega); simpa using this
      · exact (HTR.out.drewN dq).setCell (by omega) (by omega) _
      · obtain ⟨m, hm⟩ : ∃ m, n - (k + 1) = m := ⟨_, rfl⟩
        have hv := HV.out
        rw [hm] at hv
        rw [show n - k = m + 1 by omega, V_low, V_low, upd_same, V_congr (f := fun i => upd qf k d (k + 1 + i)) (g := fun i => qf (k + 1 + i)) (fun i _ => upd_other _ _ _ (by omega))]
        exact word_step hv HD.out.symm HR2.out.symm
set_option maxHeartbeats 2000000 in
theorem Div_new (va vb : Value) (L M X Y : Nat) (w : World) (hL : L ≤ 4000000000) (hM : M ≤ 4000000000) (ha : Mag w va L X) (hb : Mag w vb M Y) (hYX : Y ≤ X) (hY0 : 0 < Y) (hYB : Y < B) :
    Calls Tryz.prog 75 #[va, vb] w fun e w' => ∃ g k c vr, e = .returned (.tuple #[.slice (some ⟨g, 0, none⟩) k c, vr]) ∧ w.heap.size ≤ g ∧ RMag w' (.slice (some ⟨g, 0, none⟩) k c) L (X / Y) ∧ RMag w' vr L (X % Y) ∧ Below w.heap.size w w' := by
  have hXL := ha.lt
  have hmodL : X % Y < B ^ L := Nat.lt_of_le_of_lt (Nat.mod_le _ _) hXL
  obtain ⟨ao, n0, ca, f, rfl, hnc, hnL, hra, hX⟩ := ha
  obtain ⟨bo, m0, cb, g, rfl, hmc, hmM, hrb, hY⟩ := hb
  have htn := tlen_le f n0
  have htm := tlen_le g m0
  have rf := tlen_right f n0
  have rg := tlen_right g m0
  rw [← tlen_V] at hX hY
  have hra' := hra.less htn
  have hrb' := hrb.less htm
  have T1 := Lib.hid (trim_any ao n0 ca w (by omega) f hnc hra)
  have T2 := Lib.hid (trim_any bo m0 cb w (by omega) g hmc hrb)
  obtain ⟨n, hn⟩ : ∃ n, tlen f n0 = n := ⟨_, rfl⟩
  obtain ⟨m, hm⟩ : ∃ m, tlen g m0 = m := ⟨_, rfl⟩
  rw [hn] at T1 hX htn rf hra'
  rw [hm] at T2 hY htm rg hrb'
  have hn9 : n ≤ 4000000000 := by omega
  have hm9 : m ≤ 4000000000 := by omega
  have hnL' : n ≤ L := by omega
  have hncc : n ≤ ca := by omega
  have hmcc : m ≤ cb := by omega
  have hcmp := Cmp_any (.slice ao n ca) (.slice bo m cb) n m X Y w hn9 hm9 ⟨ao, n, ca, f, rfl, hncc, Nat.le_refl _, hra', hX⟩ ⟨bo, m, cb, g, rfl, hmcc, Nat.le_refl _, hrb', hY⟩
  have HX := Lib.hid hX; have HY := Lib.hid hY; have RF := Lib.hid rf; have RG := Lib.hid rg; have HA := Lib.hid hra'; have HB := Lib.hid hrb'; have HML := Lib.hid hmodL
  clear hX hY rf rg hra' hrb' hn hm hra hrb hXL hmodL
  -- what a copy of the dividend is
  have hrest : ∀ (w1 w2 : World), Below w.heap.size w w2 → Held w2 w1.heap.size 0 n f → (X % Y = X) → RMag w2 (.slice (some ⟨w1.heap.size, 0, none⟩) n n) L (X % Y) := by
    intro w1 w2 _ hh e
    rw [e]
    exact ⟨_, n, n, f, rfl, Nat.le_refl _, hnL', hh.reads, HX.out, RF.out⟩
  have HR := Lib.hid hrest; clear hrest
  have hge : Y ≤ X := hYX
  have hm1 : m = 1 := by
    have h1 := len_le_of_lt (L := 1) RG.out (by rw [HY.out]; simpa using hYB)
    rcases Nat.eq_zero_or_pos m with h | h
    · subst h; have := HY.out; rw [V_zero] at this; omega
    · omega
  have hmne : ((m : Int) == 0) = false := by simp only [beq_eq_false_iff_ne]; omega
  have hc01 : cmpn X Y = 0 ∨ cmpn X Y = 1 := by
    rcases Nat.lt_or_eq_of_le hge with h | h
    · exact .inr (cmpn_of_gt h)
    · rw [h]; exact .inl (cmpn_self _)
  obtain ⟨cc, hcc⟩ : ∃ cc, cmpn X Y = cc := ⟨_, rfl⟩
  rw [hcc] at hcmp hc01
  have hcc0 : ¬ (cc < 0) := by omega
  have HC := Lib.hid hcmp; clear hcmp hcc hc01
  subst hm1
  obtain ⟨bb, bof, rfl, hbc, hbB⟩ := HB.out 0 (by omega)
  rw [Nat.add_zero] at hbc
  have hY1 : Y = g 0 := by rw [← HY.out, V_one]
  have hg0 : 0 < g 0 := by have := RG.out 0 rfl; omega
  have HY1 := Lib.hid hY1; have HBB := Lib.hid hbB; clear hY1 hbB
  go_enter Tryz.func75, Tryz.ntmps75
  go_wp2_with fail
  refine T1.out.mono ?_
  rintro e w1 ⟨rfl, rfl⟩
  go_wp2_with fail
  refine T2.out.mono ?_
  rintro e w1 ⟨rfl, rfl⟩
  go_wp2_with fail
  refine HC.out.mono ?_
  rintro e w1 ⟨q, rfl, hq⟩
  obtain ⟨hb1, hz1⟩ := drewN_size hq
  have hbc1 : w1.cell? ⟨bb, bof, none⟩ = some (.int .u64 ((g 0 : Nat) : Int)) := by rw [hq]; exact hbc
  have HZ1 := Lib.hid hz1; clear hq hz1 hbc
  go_wp2_with fail
  refine (divWord_new _ _ _ _ _ (by omega) f hg0 HBB.out (HA.out.below hb1)).mono ?_
  rintro e w2 ⟨mq, rfl, hrq, hb2⟩
  have HRQ := Lib.hid hrq; clear hrq
  have hb02 : Below w.heap.size w w2 := hb1.trans (hb2.mono (by have := HZ1.out; omega))
  have hrB : V f n % g 0 < B := Nat.lt_trans (Nat.mod_lt _ hg0) HBB.out
  obtain ⟨rr, hrr⟩ : ∃ rr, V f n % g 0 = rr := ⟨_, rfl⟩
  rw [hrr] at hrB
  rw [hrr]
  have HRR := Lib.hid hrr; clear hrr
  go_wp2_with fail
  refine (Of_any rr w2 hrB).mono ?_
  rintro e w3 ⟨vr, rfl, hrv, hb3⟩
  have HRV := Lib.hid hrv; clear hrv
  have hb03 : Below w.heap.size w w3 := hb02.trans (hb3.mono (by have := hb02.size; omega))
  go_wp2
  go_ret2
  refine ⟨_, _, _, _, rfl, hb1.size, ?_, ?_, hb03⟩
  · have := HRQ.out; rw [HX.out, ← HY1.out] at this; exact (this.below hb3).more (by omega)
  · have e1 : rr = X % Y := by rw [← HRR.out, HX.out, HY1.out]
    rw [← e1]; exact HRV.out.short (by rw [e1]; exact HML.out)
end Go.Proofs.YtbeohedkeklaiaaGreatDoor
