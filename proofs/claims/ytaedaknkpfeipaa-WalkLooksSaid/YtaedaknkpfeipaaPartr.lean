/- The statements' Grid: its points and triangles, place by place; bits; the map of faults. -/
import Derived.Test.YtaedaknkpfeipaaPartq
import Derived.Test.YtaedaknkpfeipaaPartk
namespace Go.MagM
open Go.RowKit
/-- Bit k of a number, as Go tells it. -/
def bitB (b : Int) (k : Nat) : Bool := bits .and .u32 (b / 2 ^ k) 1 == 1
theorem bits_are (q0 q1 q2 q3 : Bool) : ∃ n : Nat, n < 16 ∧ n.testBit 0 = q0 ∧ n.testBit 1 = q1 ∧ n.testBit 2 = q2 ∧ n.testBit 3 = q3 := by
  refine ⟨(if q0 then 1 else 0) + (if q1 then 2 else 0) + (if q2 then 4 else 0) + (if q3 then 8 else 0), ?_⟩
  cases q0 <;> cases q1 <;> cases q2 <;> cases q3 <;> decide
theorem bits_of (b : Int) : ∃ n : Nat, n < 16 ∧ ∀ k : Nat, k < 4 → bitB b k = n.testBit k := by
  obtain ⟨n, h, h0, h1, h2, h3⟩ := bits_are (bitB b 0) (bitB b 1) (bitB b 2) (bitB b 3)
  refine ⟨n, h, fun k hk => ?_⟩
  obtain rfl | rfl | rfl | rfl : k = 0 ∨ k = 1 ∨ k = 2 ∨ k = 3 := by omega
  · exact h0.symm
  · exact h1.symm
  · exact h2.symm
  · exact h3.symm
theorem noWordI3 (a b c : Int) : ∀ u ∈ [Value.int .i64 a, .int .i64 b, .int .i64 c], NoWord u := by
  intro u hu; simp at hu; rcases hu with rfl | rfl | rfl <;> exact NoWord.int _
theorem MeshO.low' {p e : TypeId} {w : World} {B B' mb pb pc : Nat} {tv : Value} {P : List (Int × Int)} {S : List TriM} (h : MeshO p e w B mb pb pc tv P S) (hB : B' ≤ B) : MeshO p e w B' mb pb pc tv P S :=
  ⟨h.box, owns_low h.prow hB, owns_low h.row hB, ⟨Nat.le_trans hB h.low.1, h.low.2⟩, h.apart, h.short⟩
theorem BuildEnd.low {p e : TypeId} {F : Int → Int → Bool} {B B' : Nat} {P : List (Int × Int)} {T : List (Nat × Nat × Nat)} {mb : Nat} {w : World} (h : BuildEnd p e F B P T mb w) (hB : B' ≤ B) : BuildEnd p e F B' P T mb w := by
  obtain ⟨pb, pc, tv, S, Bd, h1, h2, h3⟩ := h
  exact ⟨pb, pc, tv, S, Bd, h1.low' hB, Nat.le_trans hB h2, h3⟩
/-- Triples in a row, three cells each. -/
def tr3Cells : List (Nat × Nat × Nat) → List Value
  | [] => []
  | t :: r => .int .i64 (t.1 : Int) :: .int .i64 (t.2.1 : Int) :: .int .i64 (t.2.2 : Int) :: tr3Cells r
theorem tr3_app : ∀ l k, tr3Cells (l ++ k) = tr3Cells l ++ tr3Cells k
  | [], _ => rfl
  | e :: t, k => by simp [tr3Cells, tr3_app t k]
theorem tr3_get : ∀ (l : List (Nat × Nat × Nat)) (i : Nat) (e : Nat × Nat × Nat), l[i]? = some e → (tr3Cells l)[i * 3]? = some (.int .i64 (e.1 : Int)) ∧ (tr3Cells l)[i * 3 + 1]? = some (.int .i64 (e.2.1 : Int)) ∧ (tr3Cells l)[i * 3 + 2]? = some (.int .i64 (e.2.2 : Int))
  | [], _, _, h => by simp at h
  | x :: t, 0, e, h => by simp at h; subst h; exact ⟨rfl, rfl, rfl⟩
  | x :: t, i + 1, e, h => by
    have := tr3_get t i e (by simpa using h)
    rw [show (i + 1) * 3 = i * 3 + 1 + 1 + 1 by omega]
    simpa [tr3Cells] using this
theorem RowN.trIn {w : World} {base g : Nat} {e : TypeId} {n c : Nat} {T : List (Nat × Nat × Nat)} (h : RowN w base e 3 (.slice (some ⟨g, 0, none⟩) n c) n (tr3Cells T)) : TrIn w g (T.map realV) := by
  intro k x y z hk
  rw [List.getElem?_map] at hk
  cases ht : T[k]? with
  | none => rw [ht] at hk; cases hk
  | some t =>
    rw [ht] at hk
    simp only [Option.map_some, Option.some.injEq, realV, Prod.mk.injEq] at hk
    obtain ⟨rfl, rfl, rfl⟩ := hk
    obtain ⟨h0, h1, h2⟩ := tr3_get T k t ht
    have hc := h.cells (g := g) rfl
    exact ⟨hc _ _ h0, hc _ _ h1, hc _ _ h2⟩
theorem RowN.ptsC {w : World} {base g : Nat} {e : TypeId} {n c : Nat} {P : List (Int × Int)} (h : RowN w base e 2 (.slice (some ⟨g, 0, none⟩) n c) n (ptsCells P)) : PtsC w g P :=
  ⟨fun j u hj => by rw [Nat.zero_add]; exact h.cells (g := g) rfl j u hj⟩
end Go.MagM
namespace Go.Proofs.Ytaedaknkpfeipaa
open Go.RowKit Go.MagM Go.Maps
def gridAt (w h bits : Nat) : Bool := (List.range h).all fun y => (List.range w).all fun x =>
  ((gridT w h bits)[2 * (y * w + x)]? == some (if bits.testBit (y * w + x) then (y * (w + 1) + x, y * (w + 1) + (x + 1), (y + 1) * (w + 1) + (x + 1)) else (y * (w + 1) + (x + 1), (y + 1) * (w + 1) + x, y * (w + 1) + x))) &&
  ((gridT w h bits)[2 * (y * w + x) + 1]? == some (if bits.testBit (y * w + x) then ((y + 1) * (w + 1) + (x + 1), (y + 1) * (w + 1) + x, y * (w + 1) + x) else ((y + 1) * (w + 1) + x, y * (w + 1) + (x + 1), (y + 1) * (w + 1) + (x + 1))))
def turnOne (w h bits : Nat) : Bool := (gridT w h bits).all fun t => turnM (gridP w h) (t.1 : Int) (t.2.1 : Int) (t.2.2 : Int) == 1
def gridMore (w h bits : Nat) : Bool := gridAt w h bits && turnOne w h bits && (gridT w h bits).length == 2 * (w * h) && decide ((borderT (gridT w h bits)).length ≤ 8) && (borderT (gridT w h bits)).all (fun e => decide (e.1 < (gridP w h).length) && decide (e.2 < (gridP w h).length)) && decide (0 < (borderT (gridT w h bits)).length)
def allMore : Bool := [1, 2].all fun w => [1, 2].all fun h => (List.range 16).all fun bits => gridMore w h bits
set_option maxRecDepth 100000 in
theorem all_more : allMore = true := by decide +kernel
theorem grid_more {w h : Nat} (hw : w = 1 ∨ w = 2) (hh : h = 1 ∨ h = 2) {bits : Nat} (hb : bits < 16) : gridMore w h bits = true := by
  have := all_more
  unfold allMore at this
  rw [List.all_eq_true] at this
  have h1 := this w (by rcases hw with rfl | rfl <;> simp)
  rw [List.all_eq_true] at h1
  have h2 := h1 h (by rcases hh with rfl | rfl <;> simp)
  rw [List.all_eq_true] at h2
  exact h2 bits (List.mem_range.2 hb)
structure GridMore (w h bits : Nat) : Prop where
  even : ∀ y x, y < h → x < w → (gridT w h bits)[2 * (y * w + x)]? = some (if bits.testBit (y * w + x) then (y * (w + 1) + x, y * (w + 1) + (x + 1), (y + 1) * (w + 1) + (x + 1)) else (y * (w + 1) + (x + 1), (y + 1) * (w + 1) + x, y * (w + 1) + x))
  odd : ∀ y x, y < h → x < w → (gridT w h bits)[2 * (y * w + x) + 1]? = some (if bits.testBit (y * w + x) then ((y + 1) * (w + 1) + (x + 1), (y + 1) * (w + 1) + x, y * (w + 1) + x) else ((y + 1) * (w + 1) + x, y * (w + 1) + (x + 1), (y + 1) * (w + 1) + (x + 1)))
  one : ∀ t, t ∈ gridT w h bits → turnM (gridP w h) (t.1 : Int) (t.2.1 : Int) (t.2.2 : Int) = 1
  len : (gridT w h bits).length = 2 * (w * h)
  few : (borderT (gridT w h bits)).length ≤ 8
  ends : ∀ e, e ∈ borderT (gridT w h bits) → e.1 < (gridP w h).length ∧ e.2 < (gridP w h).length
  some_ : 0 < (borderT (gridT w h bits)).length
theorem grid_has {w h : Nat} (hw : w = 1 ∨ w = 2) (hh : h = 1 ∨ h = 2) {bits : Nat} (hb : bits < 16) : GridMore w h bits := by
  have s := grid_more hw hh hb
  unfold gridMore gridAt turnOne at s
  simp only [Bool.and_eq_true, decide_eq_true_eq, List.all_eq_true, beq_iff_eq, List.mem_range] at s
  obtain ⟨⟨⟨⟨⟨s1, s2⟩, s3⟩, s4⟩, s5⟩, s6⟩ := s
  exact ⟨fun y x hy hx => (s1 y hy x hx).1, fun y x hy hx => (s1 y hy x hx).2, s2, s3, s4, s5, s6⟩
theorem gridP_at {w h : Nat} (hw : w = 1 ∨ w = 2) (hh : h = 1 ∨ h = 2) {x y : Nat} (hx : x ≤ w) (hy : y ≤ h) : (gridP w h)[y * (w + 1) + x]? = some (2 * (x : Int), 2 * (y : Int)) := by
  have hx' : x = 0 ∨ x = 1 ∨ x = 2 := by omega
  have hy' : y = 0 ∨ y = 1 ∨ y = 2 := by omega
  rcases hw with rfl | rfl <;> rcases hh with rfl | rfl <;> rcases hx' with rfl | rfl | rfl <;> rcases hy' with rfl | rfl | rfl <;> first | rfl | omega
theorem grid_inPs {w h : Nat} (hw : w = 1 ∨ w = 2) (hh : h = 1 ∨ h = 2) : InPs (gridP w h) := by
  intro p hp
  have := (grid_ok hw hh (bits := 0) (by omega)).small p hp
  unfold InP; omega
theorem infoE3 : (Try.prog.info? 23).map (fun i => (i.zero, i.size, i.bytes)) = some (some (.agg #[.int .i64 0, .int .i64 0, .int .i64 0]), 3, 24) := by kernel_rfl
/-- A fault more. -/
theorem fault_store {w : World} {fb : Nat} {F : Int → Int → Bool} (h : FaultMap Try.prog 48 w fb F) {a b : Int} (ha : -1000000 ≤ a ∧ a ≤ 1000000) (hb : -1000000 ≤ b ∧ b ≤ 1000000) :
    ∃ w' F', (Instr.mapUpdate 93 (.map (some fb)) (.agg #[.int .i64 a, .int .i64 b]) (.int .i64 1)).run Try.prog w = .ok () w' ∧ Turned w w' fb ∧ FaultMap Try.prog 48 w' fb F' := by
  obtain ⟨m, h1, h2, h3⟩ := h
  obtain ⟨l, hl⟩ := key2_of ha hb
  obtain ⟨w', m', hr, ht, hm, hc⟩ := h1.store keyed2 Try.underlying93 hl (.int .i64 1)
  rcases hc with ⟨hno, rfl⟩ | ⟨j, u, hj, rfl⟩
  · refine ⟨w', fun c d => F c d || decide (c = a ∧ d = b), hr, ht, _, hm, fun e he => ?_, fun c d hF => ?_⟩
    · rcases List.mem_append.1 he with he | he
      · obtain ⟨c, d, e1, hF⟩ := h2 e he
        exact ⟨c, d, e1, by show (F c d || _) = true; rw [hF]; rfl⟩
      · simp only [List.mem_cons, List.not_mem_nil, or_false] at he
        exact ⟨a, b, he, by simp⟩
    · simp only [Bool.or_eq_true, decide_eq_true_eq] at hF
      rcases hF with hF | ⟨rfl, rfl⟩
      · exact List.mem_append_left _ (h3 c d hF)
      · exact List.mem_append_right _ (by simp [key2])
  · obtain ⟨c, d, e1, hF⟩ := h2 _ (List.mem_of_getElem? hj)
    simp only [Prod.mk.injEq] at e1
    obtain ⟨e1, rfl⟩ := e1
    have hset : m.set j (.agg #[.int .i64 a, .int .i64 b], .int .i64 1) = m := by
      refine List.ext_getElem? fun i => ?_
      rw [List.getElem?_set]
      split
      · rename_i hij; subst hij
        rw [if_pos (List.getElem?_eq_some_iff.1 hj).1, hj]
      · rfl
    rw [hset] at hm
    exact ⟨w', F, hr, ht, m, hm, h2, h3⟩
theorem fault_new {w : World} {fb : Nat} (h : MapB Try.prog 48 w fb []) : FaultMap Try.prog 48 w fb (fun _ _ => false) :=
  ⟨[], h, fun e he => (by cases he), fun a b hF => (by cases hF)⟩
set_option maxRecDepth 100000 in
set_option maxHeartbeats 4000000 in
/-- The number of a place in a grid. -/
theorem gridNo_any (g W : Nat) (x y : Nat) (w : World) (hW : W ≤ 2) (hx : x ≤ 2) (hy : y ≤ 2) (hg : w.cell? ⟨g, 0, none⟩ = some (.int .i64 (W : Int))) (r : Int) (hr : (y : Int) * ((W : Int) + 1) + (x : Int) = r) :
    Calls Try.prog 47 #[.int .i64 (x : Int), .int .i64 (y : Int), .pointer (some ⟨g, 0, none⟩)] w fun e w' => e = .returned (.int .i64 r) ∧ w = w' := by
  obtain ⟨p, hp⟩ : ∃ p, (y : Int) * ((W : Int) + 1) = p := ⟨_, rfl⟩
  have hp1 : 0 ≤ p ∧ p ≤ 6 := by
    have hy' : y = 0 ∨ y = 1 ∨ y = 2 := by omega
    rcases hy' with rfl | rfl | rfl <;> omega
  rw [hp] at hr
  have h1 : IntKind.i64.wrap ((W : Int) + 1) = (W : Int) + 1 := by rw [IntKind.wrap_i64]; omega
  have h2 : IntKind.i64.wrap p = p := by rw [IntKind.wrap_i64]; omega
  have h3 : IntKind.i64.wrap (p + (x : Int)) = r := by rw [IntKind.wrap_i64]; omega
  clear hr hp1
  go_enter Try.func47, Try.ntmps47
  go_wp2
  go_ret
  exact ⟨rfl, rfl⟩
end Go.Proofs.Ytaedaknkpfeipaa
/- The statements' Grid, 1 by 1. -/
namespace Go.Proofs.Ytaedaknkpfeipaa
open Go.RowKit Go.MagM
set_option maxRecDepth 100000 in
set_option maxHeartbeats 16000000 in
theorem Grid11_any (w0 h0 b f : Int) (bn : Nat) (hbn : bn < 16) (e1 : bits .and .i64 w0 1 = 0) (e2 : bits .and .i64 h0 1 = 0) (hbit : ∀ k : Nat, k < 4 → bitB b k = bn.testBit k) (w : World) :
    Calls Try.prog 20 #[.int .i64 w0, .int .i64 h0, .int .u32 b, .int .u32 f] w fun e w' => ∃ (mb g c : Nat) (F : Int → Int → Bool), e = .returned (.tuple #[.pointer (some ⟨mb, 0, none⟩), .slice (some ⟨g, 0, none⟩) 2 c]) ∧ BuildEnd 26 37 F w.heap.size (gridP 1 1) (gridT 1 1 bn) mb w' ∧ TrIn w' g ((gridT 1 1 bn).map realV) ∧ w.heap.size ≤ g ∧ Below w.heap.size w w' := by
  have ok := grid_ok (w := 1) (h := 1) (by omega) (by omega) hbn
  have hm := grid_has (w := 1) (h := 1) (by omega) (by omega) hbn
  have hps : InPs (gridP 1 1) := grid_inPs (by omega) (by omega)
  have OK := Lib.hid ok; have HM := Lib.hid hm; have HPS := Lib.hid hps; have HBIT := Lib.hid hbit
  clear ok hm hps hbit
  obtain ⟨i0, hi, hz0, hz1, hz2⟩ := info_parts infoPt
  have HI := Lib.hid hi; have HZ0 := Lib.hid hz0; have HZ1 := Lib.hid hz1; have HZ2 := Lib.hid hz2
  obtain ⟨j0, hj, hy0, hy1, hy2⟩ := info_parts infoE3
  have HJ := Lib.hid hj; have HY0 := Lib.hid hy0; have HY1 := Lib.hid hy1; have HY2 := Lib.hid hy2
  clear hi hz0 hz1 hz2 hj hy0 hy1 hy2
  obtain ⟨w1, hw1, pw0, hB1, hs1⟩ := new_box w _ rfl [.int .i64 w0] 3
  have sc := pw0.c 0 _ rfl; have sf := pw0.f 0 _ rfl
  obtain ⟨w2, hw2⟩ : ∃ w2, w1.setCell ⟨w.heap.size, 0, none⟩ (.int .i64 1) = w2 := ⟨_, rfl⟩
  have pw2 : Box w2 w.heap.size [.int .i64 1] := by rw [← hw2]; exact pw0.set 0 (.int .i64 1)
  have hB2 : Below w.heap.size w w2 := by rw [← hw2]; exact hB1.setCell (p := ⟨w.heap.size, 0, none⟩) (by simp only []; omega) _
  have hz2 : w.heap.size + 1 ≤ w2.heap.size := by have := pw2.lt; omega
  have PW2 := Lib.hid pw2; have HB2 := Lib.hid hB2; have HZS := Lib.hid hz2
  clear pw0 hB1 hs1 pw2 hB2 hz2
  go_enter Try.func20, Try.ntmps20
  go_wp2
  clear sc sf hw1 hw2
  go_loopw [10, 11, 12, 35] (fun pv _ _ iv wr => ∃ (y : Nat) (vv : Value), y ≤ 2 ∧ iv = .int .i64 (y : Int) ∧ vv = pv ∧ RowN wr (w.heap.size + 1) 26 2 vv (y * 2) (ptsCells ((gridP 1 1).take (y * 2))) ∧ Box wr w.heap.size [.int .i64 1] ∧ Below w.heap.size w wr ∧ w.heap.size + 1 ≤ wr.heap.size) (fun _ _ _ iv _ => 2 - (intOf iv).toNat)
  case atStart => exact ⟨0, _, Nat.zero_le _, rfl, rfl, RowN.nil _ _ _ _, PW2.out, HB2.out, HZS.out⟩
  case round =>
    obtain ⟨y, vv, hy, rfl, rfl, hrow, hbx, hbw, hsz⟩ := hrel
    by_cases hlt : y < 2
    · have hyd : decide ((y : Int) < 2) = true := decide_eq_true (by omega)
      have cw := hbx.c 0 _ rfl
      have HROW := Lib.hid hrow; have HBX := Lib.hid hbx; have HBW := Lib.hid hbw; have HSZ := Lib.hid hsz
      clear hrow hbx hbw hsz
      go_wp2
      clear cw
      go_loopw [10, 12, 40] (fun pv _ iv wr => ∃ (x : Nat) (vv : Value), x ≤ 2 ∧ iv = .int .i64 (x : Int) ∧ vv = pv ∧ RowN wr (w.heap.size + 1) 26 2 vv (y * 2 + x) (ptsCells ((gridP 1 1).take (y * 2 + x))) ∧ Box wr w.heap.size [.int .i64 1] ∧ Below w.heap.size w wr ∧ w.heap.size + 1 ≤ wr.heap.size) (fun _ _ iv _ => 2 - (intOf iv).toNat)
      case atStart => exact ⟨0, _, Nat.zero_le _, rfl, rfl, HROW.out, HBX.out, HBW.out, HSZ.out⟩
      case round =>
        obtain ⟨x, vv, hx, rfl, rfl, hrow, hbx, hbw, hsz⟩ := hrel
        by_cases hlx : x < 2
        · have hel := gridP_at (w := 1) (h := 1) (by omega) (by omega) (x := x) (y := y) (by omega) (by omega)
          have hx2 : IntKind.i64.wrap (2 * (x : Int)) = 2 * (x : Int) := by rw [IntKind.wrap_i64]; omega
          have hy2 : IntKind.i64.wrap (2 * (y : Int)) = 2 * (y : Int) := by rw [IntKind.wrap_i64]; omega
          obtain ⟨w3, hw3, hpn, hb3, hs3⟩ := new_box wr _ rfl [.int .i64 (2 * (x : Int)), .int .i64 (2 * (y : Int))] 26
          have hrow3 := hrow.below hb3
          have hbx3 := hbx.below hb3
          have hbw3 := hbw.trans (hb3.mono hbw.size)
          obtain ⟨v1, w4, hrun, rown, hgrow, hkept⟩ := run_append_row (P := Try.prog) w3 (w.heap.size + 1) 22 22 26 i0 (.agg #[.int .i64 0, .int .i64 0]) 2 16 (by kernel_rfl) HI.out HZ0.out HZ1.out HZ2.out rfl (noWordI2 _ _) _ (y * 2 + x) _ hrow3 ⟨wr.heap.size, 0, none⟩ 1 1 [.int .i64 (2 * (x : Int)), .int .i64 (2 * (y : Int))] (by omega) rfl hpn.news (by intro u hu; simp at hu; rcases hu with rfl | rfl <;> rfl) (noWordI2 _ _) (by unfold maxLen; omega) (by omega) (by omega)
          have hne : ∀ k, vv.ownBlock = some k → w.heap.size + 1 ≤ k := fun k hk => (hrow3.lt k hk).1
          have hbx4 := hbx3.grown hgrow (fun e => by have := hne _ e; omega) hbx3.lt
          have hbw4 : Below w.heap.size w w4 := hbw3.grown hgrow (by omega) (fun k hk => by have := hne k hk; omega)
          have htk : ptsCells ((gridP 1 1).take (y * 2 + x)) ++ [.int .i64 (2 * (x : Int)), .int .i64 (2 * (y : Int))] = ptsCells ((gridP 1 1).take (y * 2 + (x + 1))) := by
            rw [← Nat.add_assoc, List.take_add_one, hel, ptsCells_app]; rfl
          rw [htk] at rown
          have FIN := Lib.hid (And.intro rown (And.intro hbx4 (And.intro hbw4 (show w.heap.size + 1 ≤ w4.heap.size by have := hgrow.size; omega))))
          clear hrow hbx hbw hsz hpn hb3 hs3 hrow3 hbx3 hbw3 rown hgrow hkept hne hbx4 hbw4 htk hel
          go_wp2_with (refine wpList_append_row rfl _ _ 22 rfl rfl rfl hrun ?_)
          have FI := FIN.out
          exact ⟨⟨x + 1, _, by omega, by go_num, rfl, FI.1, FI.2.1, FI.2.2.1, FI.2.2.2⟩, by simp [intOf]; omega⟩
        · obtain rfl : x = 2 := by omega
          have FIN := Lib.hid (And.intro hrow (And.intro hbx (And.intro hbw hsz)))
          clear hrow hbx hbw hsz
          go_wp2
          have FI := FIN.out
          have hrow := FI.1
          rw [show y * 2 + 2 = (y + 1) * 2 by omega] at hrow
          exact ⟨⟨y + 1, _, by omega, by go_num, rfl, hrow, FI.2.1, FI.2.2.1, FI.2.2.2⟩, by simp [intOf]; omega⟩
    · obtain rfl : y = 2 := by omega
      have hpt : (gridP 1 1).take (2 * 2) = gridP 1 1 := rfl
      rw [hpt] at hrow
      obtain ⟨gp, gpc, hvv⟩ : ∃ g c, vv = .slice (some ⟨g, 0, none⟩) 4 c := by
        rcases hrow.2 with ⟨h1, h2⟩ | ⟨g, cap, cur, h1, h2, h3⟩
        · omega
        · exact ⟨g, cap, h1⟩
      subst hvv
      have hpl := hrow.lt gp rfl
      obtain ⟨w5, hw5⟩ : ∃ w5, w5 = wr := ⟨_, rfl⟩
      rw [← hw5] at hrow hbx hbw hsz hpl
      rw [← hw5]
      have HROW := Lib.hid hrow; have HBX := Lib.hid hbx; have HBW := Lib.hid hbw; have HSZ := Lib.hid hsz; have HPL := Lib.hid hpl
      clear hrow hbx hbw hsz hpl hw5
      go_wp2
      go_loopw [13, 15, 16, 17, 18, 19, 20, 21, 55] (fun tv kv _ _ _ _ _ _ iv wr => ∃ (y : Nat) (vv : Value), y ≤ 1 ∧ iv = .int .i64 (y : Int) ∧ kv = .int .i64 ((y * 1 : Nat) : Int) ∧ vv = tv ∧ RowN wr w5.heap.size 23 3 vv (2 * (y * 1)) (tr3Cells ((gridT 1 1 bn).take (2 * (y * 1)))) ∧ Below w5.heap.size w5 wr) (fun _ _ _ _ _ _ _ _ iv _ => 1 - (intOf iv).toNat)
      case atStart => exact ⟨0, _, Nat.zero_le _, rfl, rfl, rfl, RowN.nil _ _ _ _, Below.refl _ _⟩
      case round =>
        obtain ⟨y, vv, hy, rfl, rfl, rfl, hrow, hbw⟩ := hrel
        by_cases hlt : y < 1
        · have hyd : decide ((y : Int) < 1) = true := decide_eq_true (by omega)
          have cw := (HBX.out.below hbw).c 0 _ rfl
          have HRW := Lib.hid hrow; have HBZ := Lib.hid hbw
          clear hrow hbw
          go_wp2
          clear cw
          go_loopw [13, 15, 17, 18, 19, 20, 21, 59] (fun tv kv _ _ _ _ _ iv wr => ∃ (x : Nat) (vv : Value), x ≤ 1 ∧ iv = .int .i64 (x : Int) ∧ kv = .int .i64 ((y * 1 + x : Nat) : Int) ∧ vv = tv ∧ RowN wr w5.heap.size 23 3 vv (2 * (y * 1 + x)) (tr3Cells ((gridT 1 1 bn).take (2 * (y * 1 + x)))) ∧ Below w5.heap.size w5 wr) (fun _ _ _ _ _ _ _ iv _ => 1 - (intOf iv).toNat)
          case atStart => exact ⟨0, _, Nat.zero_le _, rfl, by rw [Nat.add_zero], rfl, HRW.out, HBZ.out⟩
          case round =>
            obtain ⟨x, vv, hx, rfl, rfl, rfl, hrow, hbw⟩ := hrel
            by_cases hlx : x < 1
            · have cw := (HBX.out.below hbw).c 0 _ rfl
              have hev := HM.out.even y x hlt hlx
              have hod := HM.out.odd y x hlt hlx
              have hbt := HBIT.out (y * 1 + x) (by omega)
              obtain ⟨q, hq⟩ : ∃ q, bn.testBit (y * 1 + x) = q := ⟨_, rfl⟩
              rw [hq] at hev hod hbt
              have a0 := gridNo_any w.heap.size 1 x y wr (by omega) (by omega) (by omega) cw ((y : Int) * 2 + (x : Int)) (by omega)
              have a1 := gridNo_any w.heap.size 1 (x + 1) y wr (by omega) (by omega) (by omega) cw ((y : Int) * 2 + ((x : Int) + 1)) (by omega)
              have a2 := gridNo_any w.heap.size 1 (x + 1) (y + 1) wr (by omega) (by omega) (by omega) cw (((y : Int) + 1) * 2 + ((x : Int) + 1)) (by omega)
              have a3 := gridNo_any w.heap.size 1 x (y + 1) wr (by omega) (by omega) (by omega) cw (((y : Int) + 1) * 2 + (x : Int)) (by omega)
              rw [show (((x + 1 : Nat)) : Int) = (x : Int) + 1 by omega] at a1 a2
              rw [show (((y + 1 : Nat)) : Int) = (y : Int) + 1 by omega] at a2 a3
              obtain ⟨ca, hca⟩ : ∃ c : Int, (y : Int) * 2 + (x : Int) = c := ⟨_, rfl⟩
              obtain ⟨cb, hcb⟩ : ∃ c : Int, (y : Int) * 2 + ((x : Int) + 1) = c := ⟨_, rfl⟩
              obtain ⟨cc, hcc⟩ : ∃ c : Int, ((y : Int) + 1) * 2 + ((x : Int) + 1) = c := ⟨_, rfl⟩
              obtain ⟨cd, hcd⟩ : ∃ c : Int, ((y : Int) + 1) * 2 + (x : Int) = c := ⟨_, rfl⟩
              rw [hca] at a0; rw [hcb] at a1; rw [hcc] at a2; rw [hcd] at a3
              have C0 := Lib.hid a0; have C1 := Lib.hid a1; have C2 := Lib.hid a2; have C3 := Lib.hid a3
              have HEV := Lib.hid hev; have HOD := Lib.hid hod; have HBT := Lib.hid hbt; have HRW2 := Lib.hid hrow; have HBZ2 := Lib.hid hbw
              have HCA := Lib.hid hca; have HCB := Lib.hid hcb; have HCC := Lib.hid hcc; have HCD := Lib.hid hcd
              obtain ⟨kk, hkk⟩ : ∃ kk : Nat, y * 1 + x = kk := ⟨_, rfl⟩
              have hkk4 : kk < 4 := by omega
              rw [hkk] at hbt
              unfold bitB at hbt
              have na : (((y * 2 + x : Nat)) : Int) = ca := by omega
              have nb : (((y * 2 + (x + 1) : Nat)) : Int) = cb := by omega
              have nc : ((((y + 1) * 2 + (x + 1) : Nat)) : Int) = cc := by omega
              have nd : ((((y + 1) * 2 + x : Nat)) : Int) = cd := by omega
              have HKK := Lib.hid hkk
              rw [hkk]
              have HNA := Lib.hid (And.intro na (And.intro nb (And.intro nc nd)))
              clear a0 a1 a2 a3 hev hod hrow hbw hca hcb hcc hcd cw hkk na nb nc nd hq
              cases q
              · have hev' : (gridT 1 1 bn)[2 * (y * 1 + x)]? = some (y * 2 + (x + 1), (y + 1) * 2 + x, y * 2 + x) := HEV.out
                have hod' : (gridT 1 1 bn)[2 * (y * 1 + x) + 1]? = some ((y + 1) * 2 + x, y * 2 + (x + 1), (y + 1) * 2 + (x + 1)) := HOD.out
                have HEV' := Lib.hid hev'; have HOD' := Lib.hid hod'
                clear hev' hod'
                go_wp2_with fail
                refine C0.out.mono ?_
                rintro e w6 ⟨rfl, rfl⟩
                go_wp2_with fail
                refine C1.out.mono ?_
                rintro e w6 ⟨rfl, rfl⟩
                go_wp2_with fail
                refine C2.out.mono ?_
                rintro e w6 ⟨rfl, rfl⟩
                go_wp2_with fail
                refine C3.out.mono ?_
                rintro e w6 ⟨rfl, rfl⟩
                obtain ⟨w6, hw6, hpn, hb6, hs6⟩ := new_box wr _ rfl [.int .i64 cb, .int .i64 cd, .int .i64 ca, .int .i64 cd, .int .i64 cb, .int .i64 cc] 23
                have hrow6 := HRW2.out.below hb6
                have hbw6 := HBZ2.out.trans (hb6.mono HBZ2.out.size)
                obtain ⟨v1, w7, hrun, rown, hgrow, hkept⟩ := run_append_row (P := Try.prog) w6 w5.heap.size 50 50 23 j0 (.agg #[.int .i64 0, .int .i64 0, .int .i64 0]) 3 24 (by kernel_rfl) HJ.out HY0.out HY1.out HY2.out rfl (noWordI3 _ _ _) _ (2 * (y * 1 + x)) _ hrow6 ⟨wr.heap.size, 0, none⟩ 2 2 [.int .i64 cb, .int .i64 cd, .int .i64 ca, .int .i64 cd, .int .i64 cb, .int .i64 cc] (by omega) rfl hpn.news (by intro u hu; simp at hu; rcases hu with rfl | rfl | rfl | rfl | rfl | rfl <;> rfl) (noWordI6 _ _ _ _ _ _) (by unfold maxLen; omega) (by omega) (by have := hbw6.size; omega)
                have hbw7 : Below w5.heap.size w5 w7 := hbw6.grown hgrow (by have := hbw6.size; omega) (fun k hk => (hrow6.lt k hk).1)
                have htk : tr3Cells ((gridT 1 1 bn).take (2 * (y * 1 + x))) ++ [.int .i64 cb, .int .i64 cd, .int .i64 ca, .int .i64 cd, .int .i64 cb, .int .i64 cc] = tr3Cells ((gridT 1 1 bn).take (2 * (y * 1 + (x + 1)))) := by
                  obtain ⟨na, nb, nc, nd⟩ := HNA.out
                  rw [show 2 * (y * 1 + (x + 1)) = 2 * (y * 1 + x) + 1 + 1 by omega, List.take_add_one, List.take_add_one, HEV'.out, HOD'.out, tr3_app, tr3_app, List.append_assoc]
                  simp only [Option.toList_some, tr3Cells, na, nb, nc, nd, List.cons_append, List.nil_append]
                rw [htk, show 2 * (y * 1 + x) + 2 = 2 * (y * 1 + (x + 1)) by omega] at rown
                have FIN := Lib.hid (And.intro rown hbw7)
                clear hpn hb6 hs6 hrow6 hbw6 rown hgrow hkept hbw7 htk
                go_wp2_with (refine wpList_append_row rfl _ _ 50 rfl rfl rfl hrun ?_)
                have hkk := HKK.out
                refine ⟨⟨_, _, _, _, _, _, _, _, _, _, _, _, _, _, _, _, _, _, _, _, _, _, _, _, _, _, _, _, _, _, _, _, _, _, _, _, _, _, _, _, _, _, _, _, _, _, _, _, _, _, _, _, _, _, _, _, _, _, _, _, ?_, rfl⟩, by simp [intOf]; omega⟩
                exact ⟨x + 1, _, by omega, by go_num, congrArg (Value.int .i64) (by omega), rfl, FIN.out.1, FIN.out.2⟩
              · have hev' : (gridT 1 1 bn)[2 * (y * 1 + x)]? = some (y * 2 + x, y * 2 + (x + 1), (y + 1) * 2 + (x + 1)) := HEV.out
                have hod' : (gridT 1 1 bn)[2 * (y * 1 + x) + 1]? = some ((y + 1) * 2 + (x + 1), (y + 1) * 2 + x, y * 2 + x) := HOD.out
                have HEV' := Lib.hid hev'; have HOD' := Lib.hid hod'
                clear hev' hod'
                go_wp2_with fail
                refine C0.out.mono ?_
                rintro e w6 ⟨rfl, rfl⟩
                go_wp2_with fail
                refine C1.out.mono ?_
                rintro e w6 ⟨rfl, rfl⟩
                go_wp2_with fail
                refine C2.out.mono ?_
                rintro e w6 ⟨rfl, rfl⟩
                go_wp2_with fail
                refine C3.out.mono ?_
                rintro e w6 ⟨rfl, rfl⟩
                obtain ⟨w6, hw6, hpn, hb6, hs6⟩ := new_box wr _ rfl [.int .i64 ca, .int .i64 cb, .int .i64 cc, .int .i64 cc, .int .i64 cd, .int .i64 ca] 23
                have hrow6 := HRW2.out.below hb6
                have hbw6 := HBZ2.out.trans (hb6.mono HBZ2.out.size)
                obtain ⟨v1, w7, hrun, rown, hgrow, hkept⟩ := run_append_row (P := Try.prog) w6 w5.heap.size 50 50 23 j0 (.agg #[.int .i64 0, .int .i64 0, .int .i64 0]) 3 24 (by kernel_rfl) HJ.out HY0.out HY1.out HY2.out rfl (noWordI3 _ _ _) _ (2 * (y * 1 + x)) _ hrow6 ⟨wr.heap.size, 0, none⟩ 2 2 [.int .i64 ca, .int .i64 cb, .int .i64 cc, .int .i64 cc, .int .i64 cd, .int .i64 ca] (by omega) rfl hpn.news (by intro u hu; simp at hu; rcases hu with rfl | rfl | rfl | rfl | rfl | rfl <;> rfl) (noWordI6 _ _ _ _ _ _) (by unfold maxLen; omega) (by omega) (by have := hbw6.size; omega)
                have hbw7 : Below w5.heap.size w5 w7 := hbw6.grown hgrow (by have := hbw6.size; omega) (fun k hk => (hrow6.lt k hk).1)
                have htk : tr3Cells ((gridT 1 1 bn).take (2 * (y * 1 + x))) ++ [.int .i64 ca, .int .i64 cb, .int .i64 cc, .int .i64 cc, .int .i64 cd, .int .i64 ca] = tr3Cells ((gridT 1 1 bn).take (2 * (y * 1 + (x + 1)))) := by
                  obtain ⟨na, nb, nc, nd⟩ := HNA.out
                  rw [show 2 * (y * 1 + (x + 1)) = 2 * (y * 1 + x) + 1 + 1 by omega, List.take_add_one, List.take_add_one, HEV'.out, HOD'.out, tr3_app, tr3_app, List.append_assoc]
                  simp only [Option.toList_some, tr3Cells, na, nb, nc, nd, List.cons_append, List.nil_append]
                rw [htk, show 2 * (y * 1 + x) + 2 = 2 * (y * 1 + (x + 1)) by omega] at rown
                have FIN := Lib.hid (And.intro rown hbw7)
                clear hpn hb6 hs6 hrow6 hbw6 rown hgrow hkept hbw7 htk
                go_wp2_with (refine wpList_append_row rfl _ _ 50 rfl rfl rfl hrun ?_)
                have hkk := HKK.out
                refine ⟨⟨_, _, _, _, _, _, _, _, _, _, _, _, _, _, _, _, _, _, _, _, _, _, _, _, _, _, _, _, _, _, _, _, _, _, _, _, _, _, _, _, _, _, _, _, _, _, _, _, _, _, _, _, _, _, _, _, _, _, _, _, ?_, rfl⟩, by simp [intOf]; omega⟩
                exact ⟨x + 1, _, by omega, by go_num, congrArg (Value.int .i64) (by omega), rfl, FIN.out.1, FIN.out.2⟩
            · obtain rfl : x = 1 := by omega
              have FIN := Lib.hid (And.intro hrow hbw)
              clear hrow hbw
              go_wp2
              have hrow := FIN.out.1
              rw [show y * 1 + 1 = (y + 1) * 1 by omega] at hrow
              exact ⟨⟨y + 1, _, by omega, by go_num, congrArg (Value.int .i64) (by omega), rfl, hrow, FIN.out.2⟩, by simp [intOf]; omega⟩
        · obtain rfl : y = 1 := by omega
          have hgl := HM.out.len
          have htt : (gridT 1 1 bn).take (2 * (1 * 1)) = gridT 1 1 bn := List.take_of_length_le (by rw [hgl]; omega)
          rw [htt] at hrow
          obtain ⟨gt, gtc, hvv⟩ : ∃ g c, vv = .slice (some ⟨g, 0, none⟩) 2 c := by
            rcases hrow.2 with ⟨h1, h2⟩ | ⟨g, cap, cur, h1, h2, h3⟩
            · omega
            · exact ⟨g, cap, h1⟩
          subst hvv
          have hgtl := hrow.lt gt rfl
          obtain ⟨w7, hw7⟩ : ∃ w7, w7 = wr := ⟨_, rfl⟩
          rw [← hw7] at hrow hbw hgtl
          rw [← hw7]
          clear hw7
          obtain ⟨fb, hfb⟩ : ∃ fb, w7.heap.size = fb := ⟨_, rfl⟩
          obtain ⟨hmk, hmp⟩ := run_new_map (P := Try.prog) w7 93 48
          obtain ⟨w8, hw8⟩ : ∃ w8, w7.alloc (.map #[] 0) = w8 := ⟨_, rfl⟩
          rw [hw8, hfb] at hmk hmp
          have hb8 : Below fb w7 w8 := by rw [← hw8, ← hfb]; exact (Below.refl _ _).alloc (Nat.le_refl _) _
          have htr := hrow.trIn
          have HRWT := Lib.hid hrow; have HBT := Lib.hid hbw; have HTR := Lib.hid htr; have HGTL := Lib.hid hgtl; have HFB := Lib.hid hfb; have HMP := Lib.hid (fault_new hmp); have HB8 := Lib.hid hb8
          clear hrow hbw htr hgtl hfb hmp hb8 hw8
          go_wp2
          clear hmk
          go_loopw [23, 25, 26, 116] (fun nv _ _ iv wr => ∃ j : Nat, j ≤ 2 ∧ iv = .int .i64 (j : Int) ∧ nv = .int .i64 ((3 * j : Nat) : Int) ∧ (∃ F, FaultMap Try.prog 48 wr fb F) ∧ Below fb w7 wr) (fun _ _ _ iv _ => 2 - (intOf iv).toNat)
          case atStart => exact ⟨0, Nat.zero_le _, rfl, rfl, ⟨_, HMP.out⟩, HB8.out⟩
          case round =>
            obtain ⟨j, hj, rfl, rfl, ⟨F, hF⟩, hbw⟩ := hrel
            by_cases hlt : j < 2
            · have hyd : decide ((j : Int) < 2) = true := decide_eq_true (by omega)
              obtain ⟨⟨x, y, z⟩, hv⟩ : ∃ v, (gridT 1 1 bn)[j]? = some v := ⟨_, List.getElem?_eq_getElem (by have := HM.out.len; omega)⟩
              obtain ⟨px, py, pz⟩ := OK.out.pts _ (List.mem_of_getElem? hv)
              have hpl6 := OK.out.many
              simp only [] at px py pz
              have htk := HTR.out j (x : Int) (y : Int) (z : Int) (by rw [List.getElem?_map, hv]; rfl)
              have hfb := HFB.out
              have l1 := World.block_lt_of_cell? w7 _ htk.1
              simp only [] at l1
              have ka := (hbw.cell (p := ⟨gt, j * 3, none⟩) (by show gt < fb; omega)).trans htk.1
              have kb := (hbw.cell (p := ⟨gt, j * 3 + 1, none⟩) (by show gt < fb; omega)).trans htk.2.1
              have kc := (hbw.cell (p := ⟨gt, j * 3 + 2, none⟩) (by show gt < fb; omega)).trans htk.2.2
              obtain ⟨w9, hw9, hpv, hb9, hs9⟩ := new_box wr _ rfl [.int .i64 (x : Int), .int .i64 (y : Int), .int .i64 (z : Int)] 23
              have hF9 := hF.same (hb9.block fb hF.lt)
              have hfl := hF.lt
              have hbw9 : Below fb w7 w9 := hbw.trans (hb9.mono (by omega))
              obtain ⟨tb, htb⟩ : ∃ tb, wr.heap.size = tb := ⟨_, rfl⟩
              have htf : fb < tb := by omega
              rw [htb] at hpv
              have HF9 := Lib.hid hF9; have HBW9 := Lib.hid hbw9; have HPV := Lib.hid hpv
              have hxyz : x < 10 ∧ y < 10 ∧ z < 10 := by
                have : (gridP 1 1).length = 4 := rfl
                omega
              clear hv px py pz htk hfb l1 hb9 hs9 hF9 hbw9 hpv hF hbw hfl hpl6
              go_wp2
              clear ka kb kc hw9 htb
              go_loopw [23, 26, 120] (fun nv _ iv wr => ∃ i : Nat, i ≤ 3 ∧ iv = .int .i64 (i : Int) ∧ nv = .int .i64 ((3 * j + i : Nat) : Int) ∧ (∃ F, FaultMap Try.prog 48 wr fb F) ∧ Box wr tb [.int .i64 (x : Int), .int .i64 (y : Int), .int .i64 (z : Int)] ∧ Below fb w7 wr) (fun _ _ iv _ => 3 - (intOf iv).toNat)
              case atStart => exact ⟨0, Nat.zero_le _, rfl, rfl, ⟨_, HF9.out⟩, HPV.out, HBW9.out⟩
              case round =>
                obtain ⟨i, hi, rfl, rfl, ⟨F2, hF2⟩, hbx, hbw⟩ := hrel
                by_cases hli : i < 3
                · obtain ⟨nn, hnn⟩ : ∃ nn : Nat, 3 * j + i = nn := ⟨_, rfl⟩
                  have hnn24 : nn < 24 := by omega
                  have HNN := Lib.hid hnn
                  rw [hnn]
                  clear hnn
                  have HF2 := Lib.hid hF2; have HBX2 := Lib.hid hbx; have HBW2 := Lib.hid hbw
                  clear hF2 hbx hbw
                  obtain ⟨q, hq⟩ : ∃ q : Bool, (bits .and .u32 (f / 2 ^ (nn % 32)) 1 == 1) = q := ⟨_, rfl⟩
                  have hfb2 := HF2.out.lt
                  have hd3 := (HF2.out.same (w' := wr.drew) rfl)
                  have hx3 := HBX2.out.drew
                  have hw3 := HBW2.out.drew'
                  have HF3 := Lib.hid hd3; have HBX3 := Lib.hid hx3; have HBW3 := Lib.hid hw3
                  clear hd3 hx3 hw3
                  cases q
                  · go_wp2
                    have hnn := HNN.out
                    exact ⟨⟨i + 1, by omega, by go_num, congrArg (Value.int .i64) (by omega), ⟨_, HF2.out⟩, HBX2.out, HBW2.out⟩, by simp [intOf]; omega⟩
                  · obtain rfl | rfl | rfl : i = 0 ∨ i = 1 ∨ i = 2 := by omega
                    · obtain ⟨mn, hmn⟩ : ∃ mn : Int, (if (y : Int) < (x : Int) then (y : Int) else (x : Int)) = mn := ⟨_, rfl⟩
                      obtain ⟨mx, hmx⟩ : ∃ mx : Int, (if (y : Int) > (x : Int) then (y : Int) else (x : Int)) = mx := ⟨_, rfl⟩
                      have bmn : -1000000 ≤ mn ∧ mn ≤ 1000000 := by rw [← hmn]; split <;> omega
                      have bmx : -1000000 ≤ mx ∧ mx ≤ 1000000 := by rw [← hmx]; split <;> omega
                      have hmin : ∀ w : World, Sem.run Try.prog (Builtin.min_ #[3, 3] 3 #[.int .i64 (x : Int), .int .i64 (y : Int)]) w = Result.ok (Value.int .i64 mn) w := fun w => by rw [run_min_int2, hmn]
                      have hmax : ∀ w : World, Sem.run Try.prog (Builtin.max_ #[3, 3] 3 #[.int .i64 (x : Int), .int .i64 (y : Int)]) w = Result.ok (Value.int .i64 mx) w := fun w => by rw [run_max_int2, hmx]
                      have hwk : (IntKind.i64.wrap 1).tmod 3 = 1 := by decide
                      obtain ⟨wm, F4, hup, hT4, hF4⟩ := fault_store HF3.out bmn bmx
                      have hx0 := HBX3.out.c 0 _ rfl; have hx1 := HBX3.out.c 1 _ rfl
                      have hbx4 := HBX3.out.turned hT4 (by omega)
                      have hbw4 : Below fb w7 wm := Below.turned HBW3.out hT4 (Nat.le_refl _)
                      have hy0 := hbx4.c 0 _ rfl; have hy1 := hbx4.c 1 _ rfl
                      have FIN := Lib.hid (And.intro hF4 (And.intro hbx4 hbw4))
                      clear hmn hmx bmn bmx hT4 hF4 hbx4 hbw4
                      go_wp2_with fail
                      obtain ⟨SSs, hSSs⟩ : ∃ S : Array Bool → World → Prop, ∀ l w', S l w' ↔ ((w'.cell? ⟨tb, 0, none⟩ = some (.int .i64 (x : Int))) ∧ (w'.cell? ⟨tb, 1, none⟩ = some (.int .i64 (y : Int)))) := ⟨_, fun _ _ => Iff.rfl⟩
                      refine wp_region_noPanic ?_
                      refine wp_region_G SSs 21 #[false, false, false, false, false, false, false, false, false, false, false, false, false, false, false, false, false, false, false, false, false] (by kernel_rfl) (by kernel_rfl) (by kernel_rfl) ((hSSs _ _).2 ⟨hx0, hx1⟩) (fun hCl hHeld => ?_)
                      generalize wr.drew = wd at *
                      refine reg_takeG 0 ?_ ?_ ?_ (by kernel_rfl) (by kernel_rfl) (by kernel_rfl) (fun _ _ _ h => h) ?_ ?_ ?_ hCl hHeld ?_
                      rotate_left 2
                      · simp only [List.getElem?_toArray, List.getElem?_cons_zero]; exact rfl
                      · intro l w'; rw [hSSs, hSSs]
                      · rfl
                      · intro w' hA; clear hA; go_simp; try with_reducible rfl
                      clear hCl hHeld
                      intro hCl hHeld
                      simp only [List.setIfInBounds_toArray, List.set_cons_zero] at hCl hHeld
                      try simp only [Act.put]
                      try simp only [List.setIfInBounds_toArray, List.set_cons_zero, List.set_cons_succ]
                      refine reg_takeG 1 ?_ ?_ ?_ (by kernel_rfl) (by kernel_rfl) (by kernel_rfl) (fun _ _ _ h => h) ?_ ?_ ?_ hCl hHeld ?_
                      rotate_left 2
                      · simp only [List.getElem?_toArray, List.getElem?_cons_succ, List.getElem?_cons_zero]; exact rfl
                      · intro l w'; rw [hSSs, hSSs]
                      · rfl
                      · intro w' hA; clear hA; go_simp; try with_reducible rfl
                      clear hCl hHeld
                      intro hCl hHeld
                      simp only [List.setIfInBounds_toArray, List.set_cons_zero, List.set_cons_succ] at hCl hHeld
                      try simp only [Act.put]
                      try simp only [List.setIfInBounds_toArray, List.set_cons_zero, List.set_cons_succ]
                      refine reg_takeG 2 ?_ ?_ ?_ (by kernel_rfl) (by kernel_rfl) (by kernel_rfl) (fun _ _ _ h => h) ?_ ?_ ?_ hCl hHeld ?_
                      rotate_left 2
                      · simp only [List.getElem?_toArray, List.getElem?_cons_succ, List.getElem?_cons_zero]; exact rfl
                      · intro l w'; rw [hSSs, hSSs]
                      · rfl
                      · intro w' hA; clear hA; go_simp; try with_reducible rfl
                      clear hCl hHeld
                      intro hCl hHeld
                      simp only [List.setIfInBounds_toArray, List.set_cons_zero, List.set_cons_succ] at hCl hHeld
                      try simp only [Act.put]
                      try simp only [List.setIfInBounds_toArray, List.set_cons_zero, List.set_cons_succ]
                      refine reg_takeG 3 ?_ ?_ ?_ (by kernel_rfl) (by kernel_rfl) (by kernel_rfl) (fun _ _ _ h => h) ?_ ?_ ?_ hCl hHeld ?_
                      rotate_left 2
                      · simp only [List.getElem?_toArray, List.getElem?_cons_succ, List.getElem?_cons_zero]; exact rfl
                      · intro l w'; rw [hSSs, hSSs]
                      · rfl
                      · intro w' hA; obtain ⟨l, hl, hi, hSl⟩ := hA; have hSl := (hSSs _ _).1 hSl; obtain ⟨hz0, hz1⟩ := hSl; go_simp; try with_reducible rfl
                      clear hCl hHeld
                      intro hCl hHeld
                      simp only [List.setIfInBounds_toArray, List.set_cons_zero, List.set_cons_succ] at hCl hHeld
                      try simp only [Act.put]
                      try simp only [List.setIfInBounds_toArray, List.set_cons_zero, List.set_cons_succ]
                      refine reg_takeG 4 ?_ ?_ ?_ (by kernel_rfl) (by kernel_rfl) (by kernel_rfl) (fun _ _ _ h => h) ?_ ?_ ?_ hCl hHeld ?_
                      rotate_left 2
                      · simp only [List.getElem?_toArray, List.getElem?_cons_succ, List.getElem?_cons_zero]; exact rfl
                      · intro l w'; rw [hSSs, hSSs]
                      · rfl
                      · intro w' hA; clear hA; go_simp; try with_reducible rfl
                      clear hCl hHeld
                      intro hCl hHeld
                      simp only [List.setIfInBounds_toArray, List.set_cons_zero, List.set_cons_succ] at hCl hHeld
                      try simp only [Act.put]
                      try simp only [List.setIfInBounds_toArray, List.set_cons_zero, List.set_cons_succ]
                      refine reg_takeG 5 ?_ ?_ ?_ (by kernel_rfl) (by kernel_rfl) (by kernel_rfl) (fun _ _ _ h => h) ?_ ?_ ?_ hCl hHeld ?_
                      rotate_left 2
                      · simp only [List.getElem?_toArray, List.getElem?_cons_succ, List.getElem?_cons_zero]; exact rfl
                      · intro l w'; rw [hSSs, hSSs]
                      · rfl
                      · intro w' hA; clear hA; go_simp; try with_reducible rfl
                      clear hCl hHeld
                      intro hCl hHeld
                      simp only [List.setIfInBounds_toArray, List.set_cons_zero, List.set_cons_succ] at hCl hHeld
                      try simp only [Act.put]
                      try simp only [List.setIfInBounds_toArray, List.set_cons_zero, List.set_cons_succ]
                      refine reg_takeG 6 ?_ ?_ ?_ (by kernel_rfl) (by kernel_rfl) (by kernel_rfl) (fun _ _ _ h => h) ?_ ?_ ?_ hCl hHeld ?_
                      rotate_left 2
                      · simp only [List.getElem?_toArray, List.getElem?_cons_succ, List.getElem?_cons_zero]; exact rfl
                      · intro l w'; rw [hSSs, hSSs]
                      · rfl
                      · intro w' hA; clear hA; go_simp; try with_reducible rfl
                      clear hCl hHeld
                      intro hCl hHeld
                      simp only [List.setIfInBounds_toArray, List.set_cons_zero, List.set_cons_succ] at hCl hHeld
                      try simp only [Act.put]
                      try simp only [List.setIfInBounds_toArray, List.set_cons_zero, List.set_cons_succ]
                      refine reg_takeG 7 ?_ ?_ ?_ (by kernel_rfl) (by kernel_rfl) (by kernel_rfl) (fun _ _ _ h => h) ?_ ?_ ?_ hCl hHeld ?_
                      rotate_left 2
                      · simp only [List.getElem?_toArray, List.getElem?_cons_succ, List.getElem?_cons_zero]; exact rfl
                      · intro l w'; rw [hSSs, hSSs]
                      · rfl
                      · intro w' hA; clear hA; go_simp; try with_reducible rfl
                      clear hCl hHeld
                      intro hCl hHeld
                      simp only [List.setIfInBounds_toArray, List.set_cons_zero, List.set_cons_succ] at hCl hHeld
                      try simp only [Act.put]
                      try simp only [List.setIfInBounds_toArray, List.set_cons_zero, List.set_cons_succ]
                      refine reg_takeG 8 ?_ ?_ ?_ (by kernel_rfl) (by kernel_rfl) (by kernel_rfl) (fun _ _ _ h => h) ?_ ?_ ?_ hCl hHeld ?_
                      rotate_left 2
                      · simp only [List.getElem?_toArray, List.getElem?_cons_succ, List.getElem?_cons_zero]; exact rfl
                      · intro l w'; rw [hSSs, hSSs]
                      · rfl
                      · intro w' hA; obtain ⟨l, hl, hi, hSl⟩ := hA; have hSl := (hSSs _ _).1 hSl; obtain ⟨hz0, hz1⟩ := hSl; go_simp; try with_reducible rfl
                      clear hCl hHeld
                      intro hCl hHeld
                      simp only [List.setIfInBounds_toArray, List.set_cons_zero, List.set_cons_succ] at hCl hHeld
                      try simp only [Act.put]
                      try simp only [List.setIfInBounds_toArray, List.set_cons_zero, List.set_cons_succ]
                      refine reg_takeG 9 ?_ ?_ ?_ (by kernel_rfl) (by kernel_rfl) (by kernel_rfl) (fun _ _ _ h => h) ?_ ?_ ?_ hCl hHeld ?_
                      rotate_left 2
                      · simp only [List.getElem?_toArray, List.getElem?_cons_succ, List.getElem?_cons_zero]; exact rfl
                      · intro l w'; rw [hSSs, hSSs]
                      · rfl
                      · intro w' hA; clear hA; go_simp; try with_reducible rfl
                      clear hCl hHeld
                      intro hCl hHeld
                      simp only [List.setIfInBounds_toArray, List.set_cons_zero, List.set_cons_succ] at hCl hHeld
                      try simp only [Act.put]
                      try simp only [List.setIfInBounds_toArray, List.set_cons_zero, List.set_cons_succ]
                      refine reg_takeG 10 ?_ ?_ ?_ (by kernel_rfl) (by kernel_rfl) (by kernel_rfl) (fun _ _ _ h => h) ?_ ?_ ?_ hCl hHeld ?_
                      rotate_left 2
                      · simp only [List.getElem?_toArray, List.getElem?_cons_succ, List.getElem?_cons_zero]; exact rfl
                      · intro l w'; rw [hSSs, hSSs]
                      · rfl
                      · intro w' hA; clear hA; go_simp; try with_reducible rfl
                      clear hCl hHeld
                      intro hCl hHeld
                      simp only [List.setIfInBounds_toArray, List.set_cons_zero, List.set_cons_succ] at hCl hHeld
                      try simp only [Act.put]
                      try simp only [List.setIfInBounds_toArray, List.set_cons_zero, List.set_cons_succ]
                      refine reg_takeG 11 ?_ ?_ ?_ (by kernel_rfl) (by kernel_rfl) (by kernel_rfl) (fun _ _ _ h => h) ?_ ?_ ?_ hCl hHeld ?_
                      rotate_left 2
                      · simp only [List.getElem?_toArray, List.getElem?_cons_succ, List.getElem?_cons_zero]; exact rfl
                      · intro l w'; rw [hSSs, hSSs]
                      · rfl
                      · intro w' hA; clear hA; go_simp; try with_reducible rfl
                      clear hCl hHeld
                      intro hCl hHeld
                      simp only [List.setIfInBounds_toArray, List.set_cons_zero, List.set_cons_succ] at hCl hHeld
                      try simp only [Act.put]
                      try simp only [List.setIfInBounds_toArray, List.set_cons_zero, List.set_cons_succ]
                      refine reg_takeG 12 ?_ ?_ ?_ (by kernel_rfl) (by kernel_rfl) (by kernel_rfl) (fun _ _ _ h => h) ?_ ?_ ?_ hCl hHeld ?_
                      rotate_left 2
                      · simp only [List.getElem?_toArray, List.getElem?_cons_succ, List.getElem?_cons_zero]; exact rfl
                      · intro l w'; rw [hSSs, hSSs]
                      · rfl
                      · intro w' hA; obtain ⟨l, hl, hi, hSl⟩ := hA; have hSl := (hSSs _ _).1 hSl; obtain ⟨hz0, hz1⟩ := hSl; go_simp; try with_reducible rfl
                      clear hCl hHeld
                      intro hCl hHeld
                      simp only [List.setIfInBounds_toArray, List.set_cons_zero, List.set_cons_succ] at hCl hHeld
                      try simp only [Act.put]
                      try simp only [List.setIfInBounds_toArray, List.set_cons_zero, List.set_cons_succ]
                      refine reg_takeG 13 ?_ ?_ ?_ (by kernel_rfl) (by kernel_rfl) (by kernel_rfl) (fun _ _ _ h => h) ?_ ?_ ?_ hCl hHeld ?_
                      rotate_left 2
                      · simp only [List.getElem?_toArray, List.getElem?_cons_succ, List.getElem?_cons_zero]; exact rfl
                      · intro l w'; rw [hSSs, hSSs]
                      · rfl
                      · intro w' hA; clear hA; go_simp; try with_reducible rfl
                      clear hCl hHeld
                      intro hCl hHeld
                      simp only [List.setIfInBounds_toArray, List.set_cons_zero, List.set_cons_succ] at hCl hHeld
                      try simp only [Act.put]
                      try simp only [List.setIfInBounds_toArray, List.set_cons_zero, List.set_cons_succ]
                      refine reg_takeG 14 ?_ ?_ ?_ (by kernel_rfl) (by kernel_rfl) (by kernel_rfl) (fun _ _ _ h => h) ?_ ?_ ?_ hCl hHeld ?_
                      rotate_left 2
                      · simp only [List.getElem?_toArray, List.getElem?_cons_succ, List.getElem?_cons_zero]; exact rfl
                      · intro l w'; rw [hSSs, hSSs]
                      · rfl
                      · intro w' hA; clear hA; go_simp; try with_reducible rfl
                      clear hCl hHeld
                      intro hCl hHeld
                      simp only [List.setIfInBounds_toArray, List.set_cons_zero, List.set_cons_succ] at hCl hHeld
                      try simp only [Act.put]
                      try simp only [List.setIfInBounds_toArray, List.set_cons_zero, List.set_cons_succ]
                      refine reg_takeG 15 ?_ ?_ ?_ (by kernel_rfl) (by kernel_rfl) (by kernel_rfl) (fun _ _ _ h => h) ?_ ?_ ?_ hCl hHeld ?_
                      rotate_left 2
                      · simp only [List.getElem?_toArray, List.getElem?_cons_succ, List.getElem?_cons_zero]; exact rfl
                      · intro l w'; rw [hSSs, hSSs]
                      · rfl
                      · intro w' hA; clear hA; go_simp; try with_reducible rfl
                      clear hCl hHeld
                      intro hCl hHeld
                      simp only [List.setIfInBounds_toArray, List.set_cons_zero, List.set_cons_succ] at hCl hHeld
                      try simp only [Act.put]
                      try simp only [List.setIfInBounds_toArray, List.set_cons_zero, List.set_cons_succ]
                      refine reg_takeG 16 ?_ ?_ ?_ (by kernel_rfl) (by kernel_rfl) (by kernel_rfl) (fun _ _ _ h => h) ?_ ?_ ?_ hCl hHeld ?_
                      rotate_left 2
                      · simp only [List.getElem?_toArray, List.getElem?_cons_succ, List.getElem?_cons_zero]; exact rfl
                      · intro l w'; rw [hSSs, hSSs]
                      · rfl
                      · intro w' hA; clear hA; go_simp; try with_reducible rfl
                      clear hCl hHeld
                      intro hCl hHeld
                      simp only [List.setIfInBounds_toArray, List.set_cons_zero, List.set_cons_succ] at hCl hHeld
                      try simp only [Act.put]
                      try simp only [List.setIfInBounds_toArray, List.set_cons_zero, List.set_cons_succ]
                      refine reg_takeG 17 ?_ ?_ ?_ (by kernel_rfl) (by kernel_rfl) (by kernel_rfl) (fun _ _ _ h => h) ?_ ?_ ?_ hCl hHeld ?_
                      rotate_left 2
                      · simp only [List.getElem?_toArray, List.getElem?_cons_succ, List.getElem?_cons_zero]; exact rfl
                      · intro l w'; rw [hSSs, hSSs]
                      · rfl
                      · intro w' hA; obtain ⟨l, hl, hi, hSl⟩ := hA; have hSl := (hSSs _ _).1 hSl; obtain ⟨hz0, hz1⟩ := hSl; go_simp; try with_reducible rfl
                      clear hCl hHeld
                      intro hCl hHeld
                      simp only [List.setIfInBounds_toArray, List.set_cons_zero, List.set_cons_succ] at hCl hHeld
                      try simp only [Act.put]
                      try simp only [List.setIfInBounds_toArray, List.set_cons_zero, List.set_cons_succ]
                      refine reg_takeG 18 ?_ ?_ ?_ (by kernel_rfl) (by kernel_rfl) (by kernel_rfl) (fun _ _ _ h => h) ?_ ?_ ?_ hCl hHeld ?_
                      rotate_left 2
                      · simp only [List.getElem?_toArray, List.getElem?_cons_succ, List.getElem?_cons_zero]; exact rfl
                      · intro l w'; rw [hSSs, hSSs]
                      · rfl
                      · intro w' hA; clear hA; go_simp; try with_reducible rfl
                      clear hCl hHeld
                      intro hCl hHeld
                      simp only [List.setIfInBounds_toArray, List.set_cons_zero, List.set_cons_succ] at hCl hHeld
                      try simp only [Act.put]
                      try simp only [List.setIfInBounds_toArray, List.set_cons_zero, List.set_cons_succ]
                      refine reg_takeG 19 ?_ ?_ ?_ (by kernel_rfl) (by kernel_rfl) (by kernel_rfl) (fun _ _ _ h => h) ?_ ?_ ?_ hCl hHeld ?_
                      rotate_left 2
                      · simp only [List.getElem?_toArray, List.getElem?_cons_succ, List.getElem?_cons_zero]; exact rfl
                      · intro l w'; rw [hSSs, hSSs]
                      · rfl
                      · intro w' hA; clear hA; go_simp; try with_reducible rfl
                      clear hCl hHeld
                      intro hCl hHeld
                      simp only [List.setIfInBounds_toArray, List.set_cons_zero, List.set_cons_succ] at hCl hHeld
                      try simp only [Act.put]
                      try simp only [List.setIfInBounds_toArray, List.set_cons_zero, List.set_cons_succ]
                      clear hCl hHeld
                      refine reg_callG 20 ?_ (by kernel_rfl) ?_ (fun K hK => ?_)
                      rotate_left 1
                      · simp only [List.getElem?_toArray, List.getElem?_cons_succ, List.getElem?_cons_zero]; exact rfl
                      go_simp
                      clear hx0 hx1 hup
                      refine hK.out _ _ ((hSSs _ _).2 ⟨hy0, hy1⟩) ?_
                      clear hK K
                      try simp only [Act.put]
                      try simp only [List.setIfInBounds_toArray, List.set_cons_zero, List.set_cons_succ]
                      refine wpAnyG_done (by kernel_rfl) ?_ _
                      refine NoPanic.normal ?_
                      clear hSSs SSs
                      go_wp2
                      have hnn := HNN.out
                      refine ⟨⟨_, _, _, _, _, _, _, _, _, _, _, _, _, _, _, _, _, _, _, _, _, _, _, _, _, _, _, _, _, _, _, _, _, _, ?_, rfl⟩, by simp [intOf]⟩
                      exact ⟨0 + 1, by omega, by go_num, congrArg (Value.int .i64) (by omega), ⟨_, FIN.out.1⟩, FIN.out.2.1, FIN.out.2.2⟩
                    · obtain ⟨mn, hmn⟩ : ∃ mn : Int, (if (z : Int) < (y : Int) then (z : Int) else (y : Int)) = mn := ⟨_, rfl⟩
                      obtain ⟨mx, hmx⟩ : ∃ mx : Int, (if (z : Int) > (y : Int) then (z : Int) else (y : Int)) = mx := ⟨_, rfl⟩
                      have bmn : -1000000 ≤ mn ∧ mn ≤ 1000000 := by rw [← hmn]; split <;> omega
                      have bmx : -1000000 ≤ mx ∧ mx ≤ 1000000 := by rw [← hmx]; split <;> omega
                      have hmin : ∀ w : World, Sem.run Try.prog (Builtin.min_ #[3, 3] 3 #[.int .i64 (y : Int), .int .i64 (z : Int)]) w = Result.ok (Value.int .i64 mn) w := fun w => by rw [run_min_int2, hmn]
                      have hmax : ∀ w : World, Sem.run Try.prog (Builtin.max_ #[3, 3] 3 #[.int .i64 (y : Int), .int .i64 (z : Int)]) w = Result.ok (Value.int .i64 mx) w := fun w => by rw [run_max_int2, hmx]
                      have hwk : (IntKind.i64.wrap 2).tmod 3 = 2 := by decide
                      obtain ⟨wm, F4, hup, hT4, hF4⟩ := fault_store HF3.out bmn bmx
                      have hx0 := HBX3.out.c 1 _ rfl; have hx1 := HBX3.out.c 2 _ rfl
                      have hbx4 := HBX3.out.turned hT4 (by omega)
                      have hbw4 : Below fb w7 wm := Below.turned HBW3.out hT4 (Nat.le_refl _)
                      have hy0 := hbx4.c 1 _ rfl; have hy1 := hbx4.c 2 _ rfl
                      have FIN := Lib.hid (And.intro hF4 (And.intro hbx4 hbw4))
                      clear hmn hmx bmn bmx hT4 hF4 hbx4 hbw4
                      go_wp2_with fail
                      obtain ⟨SSs, hSSs⟩ : ∃ S : Array Bool → World → Prop, ∀ l w', S l w' ↔ ((w'.cell? ⟨tb, 1, none⟩ = some (.int .i64 (y : Int))) ∧ (w'.cell? ⟨tb, 2, none⟩ = some (.int .i64 (z : Int)))) := ⟨_, fun _ _ => Iff.rfl⟩
                      refine wp_region_noPanic ?_
                      refine wp_region_G SSs 21 #[false, false, false, false, false, false, false, false, false, false, false, false, false, false, false, false, false, false, false, false, false] (by kernel_rfl) (by kernel_rfl) (by kernel_rfl) ((hSSs _ _).2 ⟨hx0, hx1⟩) (fun hCl hHeld => ?_)
                      generalize wr.drew = wd at *
                      refine reg_takeG 0 ?_ ?_ ?_ (by kernel_rfl) (by kernel_rfl) (by kernel_rfl) (fun _ _ _ h => h) ?_ ?_ ?_ hCl hHeld ?_
                      rotate_left 2
                      · simp only [List.getElem?_toArray, List.getElem?_cons_zero]; exact rfl
                      · intro l w'; rw [hSSs, hSSs]
                      · rfl
                      · intro w' hA; clear hA; go_simp; try with_reducible rfl
                      clear hCl hHeld
                      intro hCl hHeld
                      simp only [List.setIfInBounds_toArray, List.set_cons_zero] at hCl hHeld
                      try simp only [Act.put]
                      try simp only [List.setIfInBounds_toArray, List.set_cons_zero, List.set_cons_succ]
                      refine reg_takeG 1 ?_ ?_ ?_ (by kernel_rfl) (by kernel_rfl) (by kernel_rfl) (fun _ _ _ h => h) ?_ ?_ ?_ hCl hHeld ?_
                      rotate_left 2
                      · simp only [List.getElem?_toArray, List.getElem?_cons_succ, List.getElem?_cons_zero]; exact rfl
                      · intro l w'; rw [hSSs, hSSs]
                      · rfl
                      · intro w' hA; clear hA; go_simp; try with_reducible rfl
                      clear hCl hHeld
                      intro hCl hHeld
                      simp only [List.setIfInBounds_toArray, List.set_cons_zero, List.set_cons_succ] at hCl hHeld
                      try simp only [Act.put]
                      try simp only [List.setIfInBounds_toArray, List.set_cons_zero, List.set_cons_succ]
                      refine reg_takeG 2 ?_ ?_ ?_ (by kernel_rfl) (by kernel_rfl) (by kernel_rfl) (fun _ _ _ h => h) ?_ ?_ ?_ hCl hHeld ?_
                      rotate_left 2
                      · simp only [List.getElem?_toArray, List.getElem?_cons_succ, List.getElem?_cons_zero]; exact rfl
                      · intro l w'; rw [hSSs, hSSs]
                      · rfl
                      · intro w' hA; clear hA; go_simp; try with_reducible rfl
                      clear hCl hHeld
                      intro hCl hHeld
                      simp only [List.setIfInBounds_toArray, List.set_cons_zero, List.set_cons_succ] at hCl hHeld
                      try simp only [Act.put]
                      try simp only [List.setIfInBounds_toArray, List.set_cons_zero, List.set_cons_succ]
                      refine reg_takeG 3 ?_ ?_ ?_ (by kernel_rfl) (by kernel_rfl) (by kernel_rfl) (fun _ _ _ h => h) ?_ ?_ ?_ hCl hHeld ?_
                      rotate_left 2
                      · simp only [List.getElem?_toArray, List.getElem?_cons_succ, List.getElem?_cons_zero]; exact rfl
                      · intro l w'; rw [hSSs, hSSs]
                      · rfl
                      · intro w' hA; obtain ⟨l, hl, hi, hSl⟩ := hA; have hSl := (hSSs _ _).1 hSl; obtain ⟨hz0, hz1⟩ := hSl; go_simp; try with_reducible rfl
                      clear hCl hHeld
                      intro hCl hHeld
                      simp only [List.setIfInBounds_toArray, List.set_cons_zero, List.set_cons_succ] at hCl hHeld
                      try simp only [Act.put]
                      try simp only [List.setIfInBounds_toArray, List.set_cons_zero, List.set_cons_succ]
                      refine reg_takeG 4 ?_ ?_ ?_ (by kernel_rfl) (by kernel_rfl) (by kernel_rfl) (fun _ _ _ h => h) ?_ ?_ ?_ hCl hHeld ?_
                      rotate_left 2
                      · simp only [List.getElem?_toArray, List.getElem?_cons_succ, List.getElem?_cons_zero]; exact rfl
                      · intro l w'; rw [hSSs, hSSs]
                      · rfl
                      · intro w' hA; clear hA; go_simp; try with_reducible rfl
                      clear hCl hHeld
                      intro hCl hHeld
                      simp only [List.setIfInBounds_toArray, List.set_cons_zero, List.set_cons_succ] at hCl hHeld
                      try simp only [Act.put]
                      try simp only [List.setIfInBounds_toArray, List.set_cons_zero, List.set_cons_succ]
                      refine reg_takeG 5 ?_ ?_ ?_ (by kernel_rfl) (by kernel_rfl) (by kernel_rfl) (fun _ _ _ h => h) ?_ ?_ ?_ hCl hHeld ?_
                      rotate_left 2
                      · simp only [List.getElem?_toArray, List.getElem?_cons_succ, List.getElem?_cons_zero]; exact rfl
                      · intro l w'; rw [hSSs, hSSs]
                      · rfl
                      · intro w' hA; clear hA; go_simp; try with_reducible rfl
                      clear hCl hHeld
                      intro hCl hHeld
                      simp only [List.setIfInBounds_toArray, List.set_cons_zero, List.set_cons_succ] at hCl hHeld
                      try simp only [Act.put]
                      try simp only [List.setIfInBounds_toArray, List.set_cons_zero, List.set_cons_succ]
                      refine reg_takeG 6 ?_ ?_ ?_ (by kernel_rfl) (by kernel_rfl) (by kernel_rfl) (fun _ _ _ h => h) ?_ ?_ ?_ hCl hHeld ?_
                      rotate_left 2
                      · simp only [List.getElem?_toArray, List.getElem?_cons_succ, List.getElem?_cons_zero]; exact rfl
                      · intro l w'; rw [hSSs, hSSs]
                      · rfl
                      · intro w' hA; clear hA; go_simp; try with_reducible rfl
                      clear hCl hHeld
                      intro hCl hHeld
                      simp only [List.setIfInBounds_toArray, List.set_cons_zero, List.set_cons_succ] at hCl hHeld
                      try simp only [Act.put]
                      try simp only [List.setIfInBounds_toArray, List.set_cons_zero, List.set_cons_succ]
                      refine reg_takeG 7 ?_ ?_ ?_ (by kernel_rfl) (by kernel_rfl) (by kernel_rfl) (fun _ _ _ h => h) ?_ ?_ ?_ hCl hHeld ?_
                      rotate_left 2
                      · simp only [List.getElem?_toArray, List.getElem?_cons_succ, List.getElem?_cons_zero]; exact rfl
                      · intro l w'; rw [hSSs, hSSs]
                      · rfl
                      · intro w' hA; clear hA; go_simp; try with_reducible rfl
                      clear hCl hHeld
                      intro hCl hHeld
                      simp only [List.setIfInBounds_toArray, List.set_cons_zero, List.set_cons_succ] at hCl hHeld
                      try simp only [Act.put]
                      try simp only [List.setIfInBounds_toArray, List.set_cons_zero, List.set_cons_succ]
                      refine reg_takeG 8 ?_ ?_ ?_ (by kernel_rfl) (by kernel_rfl) (by kernel_rfl) (fun _ _ _ h => h) ?_ ?_ ?_ hCl hHeld ?_
                      rotate_left 2
                      · simp only [List.getElem?_toArray, List.getElem?_cons_succ, List.getElem?_cons_zero]; exact rfl
                      · intro l w'; rw [hSSs, hSSs]
                      · rfl
                      · intro w' hA; obtain ⟨l, hl, hi, hSl⟩ := hA; have hSl := (hSSs _ _).1 hSl; obtain ⟨hz0, hz1⟩ := hSl; go_simp; try with_reducible rfl
                      clear hCl hHeld
                      intro hCl hHeld
                      simp only [List.setIfInBounds_toArray, List.set_cons_zero, List.set_cons_succ] at hCl hHeld
                      try simp only [Act.put]
                      try simp only [List.setIfInBounds_toArray, List.set_cons_zero, List.set_cons_succ]
                      refine reg_takeG 9 ?_ ?_ ?_ (by kernel_rfl) (by kernel_rfl) (by kernel_rfl) (fun _ _ _ h => h) ?_ ?_ ?_ hCl hHeld ?_
                      rotate_left 2
                      · simp only [List.getElem?_toArray, List.getElem?_cons_succ, List.getElem?_cons_zero]; exact rfl
                      · intro l w'; rw [hSSs, hSSs]
                      · rfl
                      · intro w' hA; clear hA; go_simp; try with_reducible rfl
                      clear hCl hHeld
                      intro hCl hHeld
                      simp only [List.setIfInBounds_toArray, List.set_cons_zero, List.set_cons_succ] at hCl hHeld
                      try simp only [Act.put]
                      try simp only [List.setIfInBounds_toArray, List.set_cons_zero, List.set_cons_succ]
                      refine reg_takeG 10 ?_ ?_ ?_ (by kernel_rfl) (by kernel_rfl) (by kernel_rfl) (fun _ _ _ h => h) ?_ ?_ ?_ hCl hHeld ?_
                      rotate_left 2
                      · simp only [List.getElem?_toArray, List.getElem?_cons_succ, List.getElem?_cons_zero]; exact rfl
                      · intro l w'; rw [hSSs, hSSs]
                      · rfl
                      · intro w' hA; clear hA; go_simp; try with_reducible rfl
                      clear hCl hHeld
                      intro hCl hHeld
                      simp only [List.setIfInBounds_toArray, List.set_cons_zero, List.set_cons_succ] at hCl hHeld
                      try simp only [Act.put]
                      try simp only [List.setIfInBounds_toArray, List.set_cons_zero, List.set_cons_succ]
                      refine reg_takeG 11 ?_ ?_ ?_ (by kernel_rfl) (by kernel_rfl) (by kernel_rfl) (fun _ _ _ h => h) ?_ ?_ ?_ hCl hHeld ?_
                      rotate_left 2
                      · simp only [List.getElem?_toArray, List.getElem?_cons_succ, List.getElem?_cons_zero]; exact rfl
                      · intro l w'; rw [hSSs, hSSs]
                      · rfl
                      · intro w' hA; clear hA; go_simp; try with_reducible rfl
                      clear hCl hHeld
                      intro hCl hHeld
                      simp only [List.setIfInBounds_toArray, List.set_cons_zero, List.set_cons_succ] at hCl hHeld
                      try simp only [Act.put]
                      try simp only [List.setIfInBounds_toArray, List.set_cons_zero, List.set_cons_succ]
                      refine reg_takeG 12 ?_ ?_ ?_ (by kernel_rfl) (by kernel_rfl) (by kernel_rfl) (fun _ _ _ h => h) ?_ ?_ ?_ hCl hHeld ?_
                      rotate_left 2
                      · simp only [List.getElem?_toArray, List.getElem?_cons_succ, List.getElem?_cons_zero]; exact rfl
                      · intro l w'; rw [hSSs, hSSs]
                      · rfl
                      · intro w' hA; obtain ⟨l, hl, hi, hSl⟩ := hA; have hSl := (hSSs _ _).1 hSl; obtain ⟨hz0, hz1⟩ := hSl; go_simp; try with_reducible rfl
                      clear hCl hHeld
                      intro hCl hHeld
                      simp only [List.setIfInBounds_toArray, List.set_cons_zero, List.set_cons_succ] at hCl hHeld
                      try simp only [Act.put]
                      try simp only [List.setIfInBounds_toArray, List.set_cons_zero, List.set_cons_succ]
                      refine reg_takeG 13 ?_ ?_ ?_ (by kernel_rfl) (by kernel_rfl) (by kernel_rfl) (fun _ _ _ h => h) ?_ ?_ ?_ hCl hHeld ?_
                      rotate_left 2
                      · simp only [List.getElem?_toArray, List.getElem?_cons_succ, List.getElem?_cons_zero]; exact rfl
                      · intro l w'; rw [hSSs, hSSs]
                      · rfl
                      · intro w' hA; clear hA; go_simp; try with_reducible rfl
                      clear hCl hHeld
                      intro hCl hHeld
                      simp only [List.setIfInBounds_toArray, List.set_cons_zero, List.set_cons_succ] at hCl hHeld
                      try simp only [Act.put]
                      try simp only [List.setIfInBounds_toArray, List.set_cons_zero, List.set_cons_succ]
                      refine reg_takeG 14 ?_ ?_ ?_ (by kernel_rfl) (by kernel_rfl) (by kernel_rfl) (fun _ _ _ h => h) ?_ ?_ ?_ hCl hHeld ?_
                      rotate_left 2
                      · simp only [List.getElem?_toArray, List.getElem?_cons_succ, List.getElem?_cons_zero]; exact rfl
                      · intro l w'; rw [hSSs, hSSs]
                      · rfl
                      · intro w' hA; clear hA; go_simp; try with_reducible rfl
                      clear hCl hHeld
                      intro hCl hHeld
                      simp only [List.setIfInBounds_toArray, List.set_cons_zero, List.set_cons_succ] at hCl hHeld
                      try simp only [Act.put]
                      try simp only [List.setIfInBounds_toArray, List.set_cons_zero, List.set_cons_succ]
                      refine reg_takeG 15 ?_ ?_ ?_ (by kernel_rfl) (by kernel_rfl) (by kernel_rfl) (fun _ _ _ h => h) ?_ ?_ ?_ hCl hHeld ?_
                      rotate_left 2
                      · simp only [List.getElem?_toArray, List.getElem?_cons_succ, List.getElem?_cons_zero]; exact rfl
                      · intro l w'; rw [hSSs, hSSs]
                      · rfl
                      · intro w' hA; clear hA; go_simp; try with_reducible rfl
                      clear hCl hHeld
                      intro hCl hHeld
                      simp only [List.setIfInBounds_toArray, List.set_cons_zero, List.set_cons_succ] at hCl hHeld
                      try simp only [Act.put]
                      try simp only [List.setIfInBounds_toArray, List.set_cons_zero, List.set_cons_succ]
                      refine reg_takeG 16 ?_ ?_ ?_ (by kernel_rfl) (by kernel_rfl) (by kernel_rfl) (fun _ _ _ h => h) ?_ ?_ ?_ hCl hHeld ?_
                      rotate_left 2
                      · simp only [List.getElem?_toArray, List.getElem?_cons_succ, List.getElem?_cons_zero]; exact rfl
                      · intro l w'; rw [hSSs, hSSs]
                      · rfl
                      · intro w' hA; clear hA; go_simp; try with_reducible rfl
                      clear hCl hHeld
                      intro hCl hHeld
                      simp only [List.setIfInBounds_toArray, List.set_cons_zero, List.set_cons_succ] at hCl hHeld
                      try simp only [Act.put]
                      try simp only [List.setIfInBounds_toArray, List.set_cons_zero, List.set_cons_succ]
                      refine reg_takeG 17 ?_ ?_ ?_ (by kernel_rfl) (by kernel_rfl) (by kernel_rfl) (fun _ _ _ h => h) ?_ ?_ ?_ hCl hHeld ?_
                      rotate_left 2
                      · simp only [List.getElem?_toArray, List.getElem?_cons_succ, List.getElem?_cons_zero]; exact rfl
                      · intro l w'; rw [hSSs, hSSs]
                      · rfl
                      · intro w' hA; obtain ⟨l, hl, hi, hSl⟩ := hA; have hSl := (hSSs _ _).1 hSl; obtain ⟨hz0, hz1⟩ := hSl; go_simp; try with_reducible rfl
                      clear hCl hHeld
                      intro hCl hHeld
                      simp only [List.setIfInBounds_toArray, List.set_cons_zero, List.set_cons_succ] at hCl hHeld
                      try simp only [Act.put]
                      try simp only [List.setIfInBounds_toArray, List.set_cons_zero, List.set_cons_succ]
                      refine reg_takeG 18 ?_ ?_ ?_ (by kernel_rfl) (by kernel_rfl) (by kernel_rfl) (fun _ _ _ h => h) ?_ ?_ ?_ hCl hHeld ?_
                      rotate_left 2
                      · simp only [List.getElem?_toArray, List.getElem?_cons_succ, List.getElem?_cons_zero]; exact rfl
                      · intro l w'; rw [hSSs, hSSs]
                      · rfl
                      · intro w' hA; clear hA; go_simp; try with_reducible rfl
                      clear hCl hHeld
                      intro hCl hHeld
                      simp only [List.setIfInBounds_toArray, List.set_cons_zero, List.set_cons_succ] at hCl hHeld
                      try simp only [Act.put]
                      try simp only [List.setIfInBounds_toArray, List.set_cons_zero, List.set_cons_succ]
                      refine reg_takeG 19 ?_ ?_ ?_ (by kernel_rfl) (by kernel_rfl) (by kernel_rfl) (fun _ _ _ h => h) ?_ ?_ ?_ hCl hHeld ?_
                      rotate_left 2
                      · simp only [List.getElem?_toArray, List.getElem?_cons_succ, List.getElem?_cons_zero]; exact rfl
                      · intro l w'; rw [hSSs, hSSs]
                      · rfl
                      · intro w' hA; clear hA; go_simp; try with_reducible rfl
                      clear hCl hHeld
                      intro hCl hHeld
                      simp only [List.setIfInBounds_toArray, List.set_cons_zero, List.set_cons_succ] at hCl hHeld
                      try simp only [Act.put]
                      try simp only [List.setIfInBounds_toArray, List.set_cons_zero, List.set_cons_succ]
                      clear hCl hHeld
                      refine reg_callG 20 ?_ (by kernel_rfl) ?_ (fun K hK => ?_)
                      rotate_left 1
                      · simp only [List.getElem?_toArray, List.getElem?_cons_succ, List.getElem?_cons_zero]; exact rfl
                      go_simp
                      clear hx0 hx1 hup
                      refine hK.out _ _ ((hSSs _ _).2 ⟨hy0, hy1⟩) ?_
                      clear hK K
                      try simp only [Act.put]
                      try simp only [List.setIfInBounds_toArray, List.set_cons_zero, List.set_cons_succ]
                      refine wpAnyG_done (by kernel_rfl) ?_ _
                      refine NoPanic.normal ?_
                      clear hSSs SSs
                      go_wp2
                      have hnn := HNN.out
                      refine ⟨⟨_, _, _, _, _, _, _, _, _, _, _, _, _, _, _, _, _, _, _, _, _, _, _, _, _, _, _, _, _, _, _, _, _, _, ?_, rfl⟩, by simp [intOf]⟩
                      exact ⟨1 + 1, by omega, by go_num, congrArg (Value.int .i64) (by omega), ⟨_, FIN.out.1⟩, FIN.out.2.1, FIN.out.2.2⟩
                    · obtain ⟨mn, hmn⟩ : ∃ mn : Int, (if (x : Int) < (z : Int) then (x : Int) else (z : Int)) = mn := ⟨_, rfl⟩
                      obtain ⟨mx, hmx⟩ : ∃ mx : Int, (if (x : Int) > (z : Int) then (x : Int) else (z : Int)) = mx := ⟨_, rfl⟩
                      have bmn : -1000000 ≤ mn ∧ mn ≤ 1000000 := by rw [← hmn]; split <;> omega
                      have bmx : -1000000 ≤ mx ∧ mx ≤ 1000000 := by rw [← hmx]; split <;> omega
                      have hmin : ∀ w : World, Sem.run Try.prog (Builtin.min_ #[3, 3] 3 #[.int .i64 (z : Int), .int .i64 (x : Int)]) w = Result.ok (Value.int .i64 mn) w := fun w => by rw [run_min_int2, hmn]
                      have hmax : ∀ w : World, Sem.run Try.prog (Builtin.max_ #[3, 3] 3 #[.int .i64 (z : Int), .int .i64 (x : Int)]) w = Result.ok (Value.int .i64 mx) w := fun w => by rw [run_max_int2, hmx]
                      have hwk : (IntKind.i64.wrap 3).tmod 3 = 0 := by decide
                      obtain ⟨wm, F4, hup, hT4, hF4⟩ := fault_store HF3.out bmn bmx
                      have hx0 := HBX3.out.c 2 _ rfl; have hx1 := HBX3.out.c 0 _ rfl
                      have hbx4 := HBX3.out.turned hT4 (by omega)
                      have hbw4 : Below fb w7 wm := Below.turned HBW3.out hT4 (Nat.le_refl _)
                      have hy0 := hbx4.c 2 _ rfl; have hy1 := hbx4.c 0 _ rfl
                      have FIN := Lib.hid (And.intro hF4 (And.intro hbx4 hbw4))
                      clear hmn hmx bmn bmx hT4 hF4 hbx4 hbw4
                      go_wp2_with fail
                      obtain ⟨SSs, hSSs⟩ : ∃ S : Array Bool → World → Prop, ∀ l w', S l w' ↔ ((w'.cell? ⟨tb, 2, none⟩ = some (.int .i64 (z : Int))) ∧ (w'.cell? ⟨tb, 0, none⟩ = some (.int .i64 (x : Int)))) := ⟨_, fun _ _ => Iff.rfl⟩
                      refine wp_region_noPanic ?_
                      refine wp_region_G SSs 21 #[false, false, false, false, false, false, false, false, false, false, false, false, false, false, false, false, false, false, false, false, false] (by kernel_rfl) (by kernel_rfl) (by kernel_rfl) ((hSSs _ _).2 ⟨hx0, hx1⟩) (fun hCl hHeld => ?_)
                      generalize wr.drew = wd at *
                      refine reg_takeG 0 ?_ ?_ ?_ (by kernel_rfl) (by kernel_rfl) (by kernel_rfl) (fun _ _ _ h => h) ?_ ?_ ?_ hCl hHeld ?_
                      rotate_left 2
                      · simp only [List.getElem?_toArray, List.getElem?_cons_zero]; exact rfl
                      · intro l w'; rw [hSSs, hSSs]
                      · rfl
                      · intro w' hA; clear hA; go_simp; try with_reducible rfl
                      clear hCl hHeld
                      intro hCl hHeld
                      simp only [List.setIfInBounds_toArray, List.set_cons_zero] at hCl hHeld
                      try simp only [Act.put]
                      try simp only [List.setIfInBounds_toArray, List.set_cons_zero, List.set_cons_succ]
                      refine reg_takeG 1 ?_ ?_ ?_ (by kernel_rfl) (by kernel_rfl) (by kernel_rfl) (fun _ _ _ h => h) ?_ ?_ ?_ hCl hHeld ?_
                      rotate_left 2
                      · simp only [List.getElem?_toArray, List.getElem?_cons_succ, List.getElem?_cons_zero]; exact rfl
                      · intro l w'; rw [hSSs, hSSs]
                      · rfl
                      · intro w' hA; clear hA; go_simp; try with_reducible rfl
                      clear hCl hHeld
                      intro hCl hHeld
                      simp only [List.setIfInBounds_toArray, List.set_cons_zero, List.set_cons_succ] at hCl hHeld
                      try simp only [Act.put]
                      try simp only [List.setIfInBounds_toArray, List.set_cons_zero, List.set_cons_succ]
                      refine reg_takeG 2 ?_ ?_ ?_ (by kernel_rfl) (by kernel_rfl) (by kernel_rfl) (fun _ _ _ h => h) ?_ ?_ ?_ hCl hHeld ?_
                      rotate_left 2
                      · simp only [List.getElem?_toArray, List.getElem?_cons_succ, List.getElem?_cons_zero]; exact rfl
                      · intro l w'; rw [hSSs, hSSs]
                      · rfl
                      · intro w' hA; clear hA; go_simp; try with_reducible rfl
                      clear hCl hHeld
                      intro hCl hHeld
                      simp only [List.setIfInBounds_toArray, List.set_cons_zero, List.set_cons_succ] at hCl hHeld
                      try simp only [Act.put]
                      try simp only [List.setIfInBounds_toArray, List.set_cons_zero, List.set_cons_succ]
                      refine reg_takeG 3 ?_ ?_ ?_ (by kernel_rfl) (by kernel_rfl) (by kernel_rfl) (fun _ _ _ h => h) ?_ ?_ ?_ hCl hHeld ?_
                      rotate_left 2
                      · simp only [List.getElem?_toArray, List.getElem?_cons_succ, List.getElem?_cons_zero]; exact rfl
                      · intro l w'; rw [hSSs, hSSs]
                      · rfl
                      · intro w' hA; obtain ⟨l, hl, hi, hSl⟩ := hA; have hSl := (hSSs _ _).1 hSl; obtain ⟨hz0, hz1⟩ := hSl; go_simp; try with_reducible rfl
                      clear hCl hHeld
                      intro hCl hHeld
                      simp only [List.setIfInBounds_toArray, List.set_cons_zero, List.set_cons_succ] at hCl hHeld
                      try simp only [Act.put]
                      try simp only [List.setIfInBounds_toArray, List.set_cons_zero, List.set_cons_succ]
                      refine reg_takeG 4 ?_ ?_ ?_ (by kernel_rfl) (by kernel_rfl) (by kernel_rfl) (fun _ _ _ h => h) ?_ ?_ ?_ hCl hHeld ?_
                      rotate_left 2
                      · simp only [List.getElem?_toArray, List.getElem?_cons_succ, List.getElem?_cons_zero]; exact rfl
                      · intro l w'; rw [hSSs, hSSs]
                      · rfl
                      · intro w' hA; clear hA; go_simp; try with_reducible rfl
                      clear hCl hHeld
                      intro hCl hHeld
                      simp only [List.setIfInBounds_toArray, List.set_cons_zero, List.set_cons_succ] at hCl hHeld
                      try simp only [Act.put]
                      try simp only [List.setIfInBounds_toArray, List.set_cons_zero, List.set_cons_succ]
                      refine reg_takeG 5 ?_ ?_ ?_ (by kernel_rfl) (by kernel_rfl) (by kernel_rfl) (fun _ _ _ h => h) ?_ ?_ ?_ hCl hHeld ?_
                      rotate_left 2
                      · simp only [List.getElem?_toArray, List.getElem?_cons_succ, List.getElem?_cons_zero]; exact rfl
                      · intro l w'; rw [hSSs, hSSs]
                      · rfl
                      · intro w' hA; clear hA; go_simp; try with_reducible rfl
                      clear hCl hHeld
                      intro hCl hHeld
                      simp only [List.setIfInBounds_toArray, List.set_cons_zero, List.set_cons_succ] at hCl hHeld
                      try simp only [Act.put]
                      try simp only [List.setIfInBounds_toArray, List.set_cons_zero, List.set_cons_succ]
                      refine reg_takeG 6 ?_ ?_ ?_ (by kernel_rfl) (by kernel_rfl) (by kernel_rfl) (fun _ _ _ h => h) ?_ ?_ ?_ hCl hHeld ?_
                      rotate_left 2
                      · simp only [List.getElem?_toArray, List.getElem?_cons_succ, List.getElem?_cons_zero]; exact rfl
                      · intro l w'; rw [hSSs, hSSs]
                      · rfl
                      · intro w' hA; clear hA; go_simp; try with_reducible rfl
                      clear hCl hHeld
                      intro hCl hHeld
                      simp only [List.setIfInBounds_toArray, List.set_cons_zero, List.set_cons_succ] at hCl hHeld
                      try simp only [Act.put]
                      try simp only [List.setIfInBounds_toArray, List.set_cons_zero, List.set_cons_succ]
                      refine reg_takeG 7 ?_ ?_ ?_ (by kernel_rfl) (by kernel_rfl) (by kernel_rfl) (fun _ _ _ h => h) ?_ ?_ ?_ hCl hHeld ?_
                      rotate_left 2
                      · simp only [List.getElem?_toArray, List.getElem?_cons_succ, List.getElem?_cons_zero]; exact rfl
                      · intro l w'; rw [hSSs, hSSs]
                      · rfl
                      · intro w' hA; clear hA; go_simp; try with_reducible rfl
                      clear hCl hHeld
                      intro hCl hHeld
                      simp only [List.setIfInBounds_toArray, List.set_cons_zero, List.set_cons_succ] at hCl hHeld
                      try simp only [Act.put]
                      try simp only [List.setIfInBounds_toArray, List.set_cons_zero, List.set_cons_succ]
                      refine reg_takeG 8 ?_ ?_ ?_ (by kernel_rfl) (by kernel_rfl) (by kernel_rfl) (fun _ _ _ h => h) ?_ ?_ ?_ hCl hHeld ?_
                      rotate_left 2
                      · simp only [List.getElem?_toArray, List.getElem?_cons_succ, List.getElem?_cons_zero]; exact rfl
                      · intro l w'; rw [hSSs, hSSs]
                      · rfl
                      · intro w' hA; obtain ⟨l, hl, hi, hSl⟩ := hA; have hSl := (hSSs _ _).1 hSl; obtain ⟨hz0, hz1⟩ := hSl; go_simp; try with_reducible rfl
                      clear hCl hHeld
                      intro hCl hHeld
                      simp only [List.setIfInBounds_toArray, List.set_cons_zero, List.set_cons_succ] at hCl hHeld
                      try simp only [Act.put]
                      try simp only [List.setIfInBounds_toArray, List.set_cons_zero, List.set_cons_succ]
                      refine reg_takeG 9 ?_ ?_ ?_ (by kernel_rfl) (by kernel_rfl) (by kernel_rfl) (fun _ _ _ h => h) ?_ ?_ ?_ hCl hHeld ?_
                      rotate_left 2
                      · simp only [List.getElem?_toArray, List.getElem?_cons_succ, List.getElem?_cons_zero]; exact rfl
                      · intro l w'; rw [hSSs, hSSs]
                      · rfl
                      · intro w' hA; clear hA; go_simp; try with_reducible rfl
                      clear hCl hHeld
                      intro hCl hHeld
                      simp only [List.setIfInBounds_toArray, List.set_cons_zero, List.set_cons_succ] at hCl hHeld
                      try simp only [Act.put]
                      try simp only [List.setIfInBounds_toArray, List.set_cons_zero, List.set_cons_succ]
                      refine reg_takeG 10 ?_ ?_ ?_ (by kernel_rfl) (by kernel_rfl) (by kernel_rfl) (fun _ _ _ h => h) ?_ ?_ ?_ hCl hHeld ?_
                      rotate_left 2
                      · simp only [List.getElem?_toArray, List.getElem?_cons_succ, List.getElem?_cons_zero]; exact rfl
                      · intro l w'; rw [hSSs, hSSs]
                      · rfl
                      · intro w' hA; clear hA; go_simp; try with_reducible rfl
                      clear hCl hHeld
                      intro hCl hHeld
                      simp only [List.setIfInBounds_toArray, List.set_cons_zero, List.set_cons_succ] at hCl hHeld
                      try simp only [Act.put]
                      try simp only [List.setIfInBounds_toArray, List.set_cons_zero, List.set_cons_succ]
                      refine reg_takeG 11 ?_ ?_ ?_ (by kernel_rfl) (by kernel_rfl) (by kernel_rfl) (fun _ _ _ h => h) ?_ ?_ ?_ hCl hHeld ?_
                      rotate_left 2
                      · simp only [List.getElem?_toArray, List.getElem?_cons_succ, List.getElem?_cons_zero]; exact rfl
                      · intro l w'; rw [hSSs, hSSs]
                      · rfl
                      · intro w' hA; clear hA; go_simp; try with_reducible rfl
                      clear hCl hHeld
                      intro hCl hHeld
                      simp only [List.setIfInBounds_toArray, List.set_cons_zero, List.set_cons_succ] at hCl hHeld
                      try simp only [Act.put]
                      try simp only [List.setIfInBounds_toArray, List.set_cons_zero, List.set_cons_succ]
                      refine reg_takeG 12 ?_ ?_ ?_ (by kernel_rfl) (by kernel_rfl) (by kernel_rfl) (fun _ _ _ h => h) ?_ ?_ ?_ hCl hHeld ?_
                      rotate_left 2
                      · simp only [List.getElem?_toArray, List.getElem?_cons_succ, List.getElem?_cons_zero]; exact rfl
                      · intro l w'; rw [hSSs, hSSs]
                      · rfl
                      · intro w' hA; obtain ⟨l, hl, hi, hSl⟩ := hA; have hSl := (hSSs _ _).1 hSl; obtain ⟨hz0, hz1⟩ := hSl; go_simp; try with_reducible rfl
                      clear hCl hHeld
                      intro hCl hHeld
                      simp only [List.setIfInBounds_toArray, List.set_cons_zero, List.set_cons_succ] at hCl hHeld
                      try simp only [Act.put]
                      try simp only [List.setIfInBounds_toArray, List.set_cons_zero, List.set_cons_succ]
                      refine reg_takeG 13 ?_ ?_ ?_ (by kernel_rfl) (by kernel_rfl) (by kernel_rfl) (fun _ _ _ h => h) ?_ ?_ ?_ hCl hHeld ?_
                      rotate_left 2
                      · simp only [List.getElem?_toArray, List.getElem?_cons_succ, List.getElem?_cons_zero]; exact rfl
                      · intro l w'; rw [hSSs, hSSs]
                      · rfl
                      · intro w' hA; clear hA; go_simp; try with_reducible rfl
                      clear hCl hHeld
                      intro hCl hHeld
                      simp only [List.setIfInBounds_toArray, List.set_cons_zero, List.set_cons_succ] at hCl hHeld
                      try simp only [Act.put]
                      try simp only [List.setIfInBounds_toArray, List.set_cons_zero, List.set_cons_succ]
                      refine reg_takeG 14 ?_ ?_ ?_ (by kernel_rfl) (by kernel_rfl) (by kernel_rfl) (fun _ _ _ h => h) ?_ ?_ ?_ hCl hHeld ?_
                      rotate_left 2
                      · simp only [List.getElem?_toArray, List.getElem?_cons_succ, List.getElem?_cons_zero]; exact rfl
                      · intro l w'; rw [hSSs, hSSs]
                      · rfl
                      · intro w' hA; clear hA; go_simp; try with_reducible rfl
                      clear hCl hHeld
                      intro hCl hHeld
                      simp only [List.setIfInBounds_toArray, List.set_cons_zero, List.set_cons_succ] at hCl hHeld
                      try simp only [Act.put]
                      try simp only [List.setIfInBounds_toArray, List.set_cons_zero, List.set_cons_succ]
                      refine reg_takeG 15 ?_ ?_ ?_ (by kernel_rfl) (by kernel_rfl) (by kernel_rfl) (fun _ _ _ h => h) ?_ ?_ ?_ hCl hHeld ?_
                      rotate_left 2
                      · simp only [List.getElem?_toArray, List.getElem?_cons_succ, List.getElem?_cons_zero]; exact rfl
                      · intro l w'; rw [hSSs, hSSs]
                      · rfl
                      · intro w' hA; clear hA; go_simp; try with_reducible rfl
                      clear hCl hHeld
                      intro hCl hHeld
                      simp only [List.setIfInBounds_toArray, List.set_cons_zero, List.set_cons_succ] at hCl hHeld
                      try simp only [Act.put]
                      try simp only [List.setIfInBounds_toArray, List.set_cons_zero, List.set_cons_succ]
                      refine reg_takeG 16 ?_ ?_ ?_ (by kernel_rfl) (by kernel_rfl) (by kernel_rfl) (fun _ _ _ h => h) ?_ ?_ ?_ hCl hHeld ?_
                      rotate_left 2
                      · simp only [List.getElem?_toArray, List.getElem?_cons_succ, List.getElem?_cons_zero]; exact rfl
                      · intro l w'; rw [hSSs, hSSs]
                      · rfl
                      · intro w' hA; clear hA; go_simp; try with_reducible rfl
                      clear hCl hHeld
                      intro hCl hHeld
                      simp only [List.setIfInBounds_toArray, List.set_cons_zero, List.set_cons_succ] at hCl hHeld
                      try simp only [Act.put]
                      try simp only [List.setIfInBounds_toArray, List.set_cons_zero, List.set_cons_succ]
                      refine reg_takeG 17 ?_ ?_ ?_ (by kernel_rfl) (by kernel_rfl) (by kernel_rfl) (fun _ _ _ h => h) ?_ ?_ ?_ hCl hHeld ?_
                      rotate_left 2
                      · simp only [List.getElem?_toArray, List.getElem?_cons_succ, List.getElem?_cons_zero]; exact rfl
                      · intro l w'; rw [hSSs, hSSs]
                      · rfl
                      · intro w' hA; obtain ⟨l, hl, hi, hSl⟩ := hA; have hSl := (hSSs _ _).1 hSl; obtain ⟨hz0, hz1⟩ := hSl; go_simp; try with_reducible rfl
                      clear hCl hHeld
                      intro hCl hHeld
                      simp only [List.setIfInBounds_toArray, List.set_cons_zero, List.set_cons_succ] at hCl hHeld
                      try simp only [Act.put]
                      try simp only [List.setIfInBounds_toArray, List.set_cons_zero, List.set_cons_succ]
                      refine reg_takeG 18 ?_ ?_ ?_ (by kernel_rfl) (by kernel_rfl) (by kernel_rfl) (fun _ _ _ h => h) ?_ ?_ ?_ hCl hHeld ?_
                      rotate_left 2
                      · simp only [List.getElem?_toArray, List.getElem?_cons_succ, List.getElem?_cons_zero]; exact rfl
                      · intro l w'; rw [hSSs, hSSs]
                      · rfl
                      · intro w' hA; clear hA; go_simp; try with_reducible rfl
                      clear hCl hHeld
                      intro hCl hHeld
                      simp only [List.setIfInBounds_toArray, List.set_cons_zero, List.set_cons_succ] at hCl hHeld
                      try simp only [Act.put]
                      try simp only [List.setIfInBounds_toArray, List.set_cons_zero, List.set_cons_succ]
                      refine reg_takeG 19 ?_ ?_ ?_ (by kernel_rfl) (by kernel_rfl) (by kernel_rfl) (fun _ _ _ h => h) ?_ ?_ ?_ hCl hHeld ?_
                      rotate_left 2
                      · simp only [List.getElem?_toArray, List.getElem?_cons_succ, List.getElem?_cons_zero]; exact rfl
                      · intro l w'; rw [hSSs, hSSs]
                      · rfl
                      · intro w' hA; clear hA; go_simp; try with_reducible rfl
                      clear hCl hHeld
                      intro hCl hHeld
                      simp only [List.setIfInBounds_toArray, List.set_cons_zero, List.set_cons_succ] at hCl hHeld
                      try simp only [Act.put]
                      try simp only [List.setIfInBounds_toArray, List.set_cons_zero, List.set_cons_succ]
                      clear hCl hHeld
                      refine reg_callG 20 ?_ (by kernel_rfl) ?_ (fun K hK => ?_)
                      rotate_left 1
                      · simp only [List.getElem?_toArray, List.getElem?_cons_succ, List.getElem?_cons_zero]; exact rfl
                      go_simp
                      clear hx0 hx1 hup
                      refine hK.out _ _ ((hSSs _ _).2 ⟨hy0, hy1⟩) ?_
                      clear hK K
                      try simp only [Act.put]
                      try simp only [List.setIfInBounds_toArray, List.set_cons_zero, List.set_cons_succ]
                      refine wpAnyG_done (by kernel_rfl) ?_ _
                      refine NoPanic.normal ?_
                      clear hSSs SSs
                      go_wp2
                      have hnn := HNN.out
                      refine ⟨⟨_, _, _, _, _, _, _, _, _, _, _, _, _, _, _, _, _, _, _, _, _, _, _, _, _, _, _, _, _, _, _, _, _, _, ?_, rfl⟩, by simp [intOf]⟩
                      exact ⟨2 + 1, by omega, by go_num, congrArg (Value.int .i64) (by omega), ⟨_, FIN.out.1⟩, FIN.out.2.1, FIN.out.2.2⟩
                · obtain rfl : i = 3 := by omega
                  have FIN := Lib.hid (And.intro hF2 hbw)
                  clear hF2 hbw hbx
                  go_wp2
                  exact ⟨⟨j + 1, by omega, by go_num, congrArg (Value.int .i64) (by omega), ⟨_, FIN.out.1⟩, FIN.out.2⟩, by simp [intOf]; omega⟩
            · obtain rfl : j = 2 := by omega
              have hgl := HM.out.len
              obtain ⟨⟨ta, tb, tc⟩, h0⟩ : ∃ v, (gridT 1 1 bn)[0]? = some v := ⟨_, List.getElem?_eq_getElem (by omega)⟩
              have hz := HM.out.one _ (List.mem_of_getElem? h0)
              simp only [] at hz
              have hb7 : Below w7.heap.size w7 wr := by rw [HFB.out]; exact hbw
              have hpr : RowN wr (w.heap.size + 1) 26 2 (.slice (some ⟨gp, 0, none⟩) 4 gpc) 4 (ptsCells (gridP 1 1)) := (HROW.out.below HBT.out).below hb7
              have htr := HTR.out.below hb7
              have hbu := Build_any F (gridT 1 1 bn) ta tb tc fb gt 2 gtc gp 4 gpc (gridP 1 1) wr OK.out.good h0 hz (by omega) (by omega) OK.out.pts htr hF rfl (by omega) (by omega) HPS.out hpr.ptsC HM.out.some_ (by have := HM.out.few; omega) HM.out.ends
              have HBU := Lib.hid hbu; have HTRR := Lib.hid htr
              have HBWR := Lib.hid (HBW.out.trans ((HBT.out.trans (hb7.mono HBT.out.size)).mono HBW.out.size))
              have hgt := HGTL.out.1; have hsz5 := HBW.out.size
              clear hbu htr hpr hb7 hF hbw hz h0 hgl
              go_wp2_with fail
              refine HBU.out.mono ?_
              rintro e w9 ⟨mb, rfl, hbe, hb9⟩
              have hbs := HBWR.out.size
              have FIN := Lib.hid (And.intro (hbe.low hbs) (And.intro (HTRR.out.below hb9) (HBWR.out.trans (hb9.mono hbs))))
              clear hbe hb9
              go_wp2
              go_ret2
              exact ⟨mb, gt, gtc, F, rfl, FIN.out.1, FIN.out.2.1, by omega, FIN.out.2.2⟩
end Go.Proofs.Ytaedaknkpfeipaa
/- The statements' Grid, 1 by 2. -/
namespace Go.Proofs.Ytaedaknkpfeipaa
open Go.RowKit Go.MagM
set_option maxRecDepth 100000 in
set_option maxHeartbeats 16000000 in
theorem Grid12_any (w0 h0 b f : Int) (bn : Nat) (hbn : bn < 16) (e1 : bits .and .i64 w0 1 = 0) (e2 : bits .and .i64 h0 1 = 1) (hbit : ∀ k : Nat, k < 4 → bitB b k = bn.testBit k) (w : World) :
    Calls Try.prog 20 #[.int .i64 w0, .int .i64 h0, .int .u32 b, .int .u32 f] w fun e w' => ∃ (mb g c : Nat) (F : Int → Int → Bool), e = .returned (.tuple #[.pointer (some ⟨mb, 0, none⟩), .slice (some ⟨g, 0, none⟩) 4 c]) ∧ BuildEnd 26 37 F w.heap.size (gridP 1 2) (gridT 1 2 bn) mb w' ∧ TrIn w' g ((gridT 1 2 bn).map realV) ∧ w.heap.size ≤ g ∧ Below w.heap.size w w' := by
  have ok := grid_ok (w := 1) (h := 2) (by omega) (by omega) hbn
  have hm := grid_has (w := 1) (h := 2) (by omega) (by omega) hbn
  have hps : InPs (gridP 1 2) := grid_inPs (by omega) (by omega)
  have OK := Lib.hid ok; have HM := Lib.hid hm; have HPS := Lib.hid hps; have HBIT := Lib.hid hbit
  clear ok hm hps hbit
  obtain ⟨i0, hi, hz0, hz1, hz2⟩ := info_parts infoPt
  have HI := Lib.hid hi; have HZ0 := Lib.hid hz0; have HZ1 := Lib.hid hz1; have HZ2 := Lib.hid hz2
  obtain ⟨j0, hj, hy0, hy1, hy2⟩ := info_parts infoE3
  have HJ := Lib.hid hj; have HY0 := Lib.hid hy0; have HY1 := Lib.hid hy1; have HY2 := Lib.hid hy2
  clear hi hz0 hz1 hz2 hj hy0 hy1 hy2
  obtain ⟨w1, hw1, pw0, hB1, hs1⟩ := new_box w _ rfl [.int .i64 w0] 3
  have sc := pw0.c 0 _ rfl; have sf := pw0.f 0 _ rfl
  obtain ⟨w2, hw2⟩ : ∃ w2, w1.setCell ⟨w.heap.size, 0, none⟩ (.int .i64 1) = w2 := ⟨_, rfl⟩
  have pw2 : Box w2 w.heap.size [.int .i64 1] := by rw [← hw2]; exact pw0.set 0 (.int .i64 1)
  have hB2 : Below w.heap.size w w2 := by rw [← hw2]; exact hB1.setCell (p := ⟨w.heap.size, 0, none⟩) (by simp only []; omega) _
  have hz2 : w.heap.size + 1 ≤ w2.heap.size := by have := pw2.lt; omega
  have PW2 := Lib.hid pw2; have HB2 := Lib.hid hB2; have HZS := Lib.hid hz2
  clear pw0 hB1 hs1 pw2 hB2 hz2
  go_enter Try.func20, Try.ntmps20
  go_wp2
  clear sc sf hw1 hw2
  go_loopw [10, 11, 12, 35] (fun pv _ _ iv wr => ∃ (y : Nat) (vv : Value), y ≤ 3 ∧ iv = .int .i64 (y : Int) ∧ vv = pv ∧ RowN wr (w.heap.size + 1) 26 2 vv (y * 2) (ptsCells ((gridP 1 2).take (y * 2))) ∧ Box wr w.heap.size [.int .i64 1] ∧ Below w.heap.size w wr ∧ w.heap.size + 1 ≤ wr.heap.size) (fun _ _ _ iv _ => 3 - (intOf iv).toNat)
  case atStart => exact ⟨0, _, Nat.zero_le _, rfl, rfl, RowN.nil _ _ _ _, PW2.out, HB2.out, HZS.out⟩
  case round =>
    obtain ⟨y, vv, hy, rfl, rfl, hrow, hbx, hbw, hsz⟩ := hrel
    by_cases hlt : y < 3
    · have hyd : decide ((y : Int) < 3) = true := decide_eq_true (by omega)
      have cw := hbx.c 0 _ rfl
      have HROW := Lib.hid hrow; have HBX := Lib.hid hbx; have HBW := Lib.hid hbw; have HSZ := Lib.hid hsz
      clear hrow hbx hbw hsz
      go_wp2
      clear cw
      go_loopw [10, 12, 40] (fun pv _ iv wr => ∃ (x : Nat) (vv : Value), x ≤ 2 ∧ iv = .int .i64 (x : Int) ∧ vv = pv ∧ RowN wr (w.heap.size + 1) 26 2 vv (y * 2 + x) (ptsCells ((gridP 1 2).take (y * 2 + x))) ∧ Box wr w.heap.size [.int .i64 1] ∧ Below w.heap.size w wr ∧ w.heap.size + 1 ≤ wr.heap.size) (fun _ _ iv _ => 2 - (intOf iv).toNat)
      case atStart => exact ⟨0, _, Nat.zero_le _, rfl, rfl, HROW.out, HBX.out, HBW.out, HSZ.out⟩
      case round =>
        obtain ⟨x, vv, hx, rfl, rfl, hrow, hbx, hbw, hsz⟩ := hrel
        by_cases hlx : x < 2
        · have hel := gridP_at (w := 1) (h := 2) (by omega) (by omega) (x := x) (y := y) (by omega) (by omega)
          have hx2 : IntKind.i64.wrap (2 * (x : Int)) = 2 * (x : Int) := by rw [IntKind.wrap_i64]; omega
          have hy2 : IntKind.i64.wrap (2 * (y : Int)) = 2 * (y : Int) := by rw [IntKind.wrap_i64]; omega
          obtain ⟨w3, hw3, hpn, hb3, hs3⟩ := new_box wr _ rfl [.int .i64 (2 * (x : Int)), .int .i64 (2 * (y : Int))] 26
          have hrow3 := hrow.below hb3
          have hbx3 := hbx.below hb3
          have hbw3 := hbw.trans (hb3.mono hbw.size)
          obtain ⟨v1, w4, hrun, rown, hgrow, hkept⟩ := run_append_row (P := Try.prog) w3 (w.heap.size + 1) 22 22 26 i0 (.agg #[.int .i64 0, .int .i64 0]) 2 16 (by kernel_rfl) HI.out HZ0.out HZ1.out HZ2.out rfl (noWordI2 _ _) _ (y * 2 + x) _ hrow3 ⟨wr.heap.size, 0, none⟩ 1 1 [.int .i64 (2 * (x : Int)), .int .i64 (2 * (y : Int))] (by omega) rfl hpn.news (by intro u hu; simp at hu; rcases hu with rfl | rfl <;> rfl) (noWordI2 _ _) (by unfold maxLen; omega) (by omega) (by omega)
          have hne : ∀ k, vv.ownBlock = some k → w.heap.size + 1 ≤ k := fun k hk => (hrow3.lt k hk).1
          have hbx4 := hbx3.grown hgrow (fun e => by have := hne _ e; omega) hbx3.lt
          have hbw4 : Below w.heap.size w w4 := hbw3.grown hgrow (by omega) (fun k hk => by have := hne k hk; omega)
          have htk : ptsCells ((gridP 1 2).take (y * 2 + x)) ++ [.int .i64 (2 * (x : Int)), .int .i64 (2 * (y : Int))] = ptsCells ((gridP 1 2).take (y * 2 + (x + 1))) := by
            rw [← Nat.add_assoc, List.take_add_one, hel, ptsCells_app]; rfl
          rw [htk] at rown
          have FIN := Lib.hid (And.intro rown (And.intro hbx4 (And.intro hbw4 (show w.heap.size + 1 ≤ w4.heap.size by have := hgrow.size; omega))))
          clear hrow hbx hbw hsz hpn hb3 hs3 hrow3 hbx3 hbw3 rown hgrow hkept hne hbx4 hbw4 htk hel
          go_wp2_with (refine wpList_append_row rfl _ _ 22 rfl rfl rfl hrun ?_)
          have FI := FIN.out
          exact ⟨⟨x + 1, _, by omega, by go_num, rfl, FI.1, FI.2.1, FI.2.2.1, FI.2.2.2⟩, by simp [intOf]; omega⟩
        · obtain rfl : x = 2 := by omega
          have FIN := Lib.hid (And.intro hrow (And.intro hbx (And.intro hbw hsz)))
          clear hrow hbx hbw hsz
          go_wp2
          have FI := FIN.out
          have hrow := FI.1
          rw [show y * 2 + 2 = (y + 1) * 2 by omega] at hrow
          exact ⟨⟨y + 1, _, by omega, by go_num, rfl, hrow, FI.2.1, FI.2.2.1, FI.2.2.2⟩, by simp [intOf]; omega⟩
    · obtain rfl : y = 3 := by omega
      have hpt : (gridP 1 2).take (3 * 2) = gridP 1 2 := rfl
      rw [hpt] at hrow
      obtain ⟨gp, gpc, hvv⟩ : ∃ g c, vv = .slice (some ⟨g, 0, none⟩) 6 c := by
        rcases hrow.2 with ⟨h1, h2⟩ | ⟨g, cap, cur, h1, h2, h3⟩
        · omega
        · exact ⟨g, cap, h1⟩
      subst hvv
      have hpl := hrow.lt gp rfl
      obtain ⟨w5, hw5⟩ : ∃ w5, w5 = wr := ⟨_, rfl⟩
      rw [← hw5] at hrow hbx hbw hsz hpl
      rw [← hw5]
      have HROW := Lib.hid hrow; have HBX := Lib.hid hbx; have HBW := Lib.hid hbw; have HSZ := Lib.hid hsz; have HPL := Lib.hid hpl
      clear hrow hbx hbw hsz hpl hw5
      go_wp2
      go_loopw [13, 15, 16, 17, 18, 19, 20, 21, 55] (fun tv kv _ _ _ _ _ _ iv wr => ∃ (y : Nat) (vv : Value), y ≤ 2 ∧ iv = .int .i64 (y : Int) ∧ kv = .int .i64 ((y * 1 : Nat) : Int) ∧ vv = tv ∧ RowN wr w5.heap.size 23 3 vv (2 * (y * 1)) (tr3Cells ((gridT 1 2 bn).take (2 * (y * 1)))) ∧ Below w5.heap.size w5 wr) (fun _ _ _ _ _ _ _ _ iv _ => 2 - (intOf iv).toNat)
      case atStart => exact ⟨0, _, Nat.zero_le _, rfl, rfl, rfl, RowN.nil _ _ _ _, Below.refl _ _⟩
      case round =>
        obtain ⟨y, vv, hy, rfl, rfl, rfl, hrow, hbw⟩ := hrel
        by_cases hlt : y < 2
        · have hyd : decide ((y : Int) < 2) = true := decide_eq_true (by omega)
          have cw := (HBX.out.below hbw).c 0 _ rfl
          have HRW := Lib.hid hrow; have HBZ := Lib.hid hbw
          clear hrow hbw
          go_wp2
          clear cw
          go_loopw [13, 15, 17, 18, 19, 20, 21, 59] (fun tv kv _ _ _ _ _ iv wr => ∃ (x : Nat) (vv : Value), x ≤ 1 ∧ iv = .int .i64 (x : Int) ∧ kv = .int .i64 ((y * 1 + x : Nat) : Int) ∧ vv = tv ∧ RowN wr w5.heap.size 23 3 vv (2 * (y * 1 + x)) (tr3Cells ((gridT 1 2 bn).take (2 * (y * 1 + x)))) ∧ Below w5.heap.size w5 wr) (fun _ _ _ _ _ _ _ iv _ => 1 - (intOf iv).toNat)
          case atStart => exact ⟨0, _, Nat.zero_le _, rfl, by rw [Nat.add_zero], rfl, HRW.out, HBZ.out⟩
          case round =>
            obtain ⟨x, vv, hx, rfl, rfl, rfl, hrow, hbw⟩ := hrel
            by_cases hlx : x < 1
            · have cw := (HBX.out.below hbw).c 0 _ rfl
              have hev := HM.out.even y x hlt hlx
              have hod := HM.out.odd y x hlt hlx
              have hbt := HBIT.out (y * 1 + x) (by omega)
              obtain ⟨q, hq⟩ : ∃ q, bn.testBit (y * 1 + x) = q := ⟨_, rfl⟩
              rw [hq] at hev hod hbt
              have a0 := gridNo_any w.heap.size 1 x y wr (by omega) (by omega) (by omega) cw ((y : Int) * 2 + (x : Int)) (by omega)
              have a1 := gridNo_any w.heap.size 1 (x + 1) y wr (by omega) (by omega) (by omega) cw ((y : Int) * 2 + ((x : Int) + 1)) (by omega)
              have a2 := gridNo_any w.heap.size 1 (x + 1) (y + 1) wr (by omega) (by omega) (by omega) cw (((y : Int) + 1) * 2 + ((x : Int) + 1)) (by omega)
              have a3 := gridNo_any w.heap.size 1 x (y + 1) wr (by omega) (by omega) (by omega) cw (((y : Int) + 1) * 2 + (x : Int)) (by omega)
              rw [show (((x + 1 : Nat)) : Int) = (x : Int) + 1 by omega] at a1 a2
              rw [show (((y + 1 : Nat)) : Int) = (y : Int) + 1 by omega] at a2 a3
              obtain ⟨ca, hca⟩ : ∃ c : Int, (y : Int) * 2 + (x : Int) = c := ⟨_, rfl⟩
              obtain ⟨cb, hcb⟩ : ∃ c : Int, (y : Int) * 2 + ((x : Int) + 1) = c := ⟨_, rfl⟩
              obtain ⟨cc, hcc⟩ : ∃ c : Int, ((y : Int) + 1) * 2 + ((x : Int) + 1) = c := ⟨_, rfl⟩
              obtain ⟨cd, hcd⟩ : ∃ c : Int, ((y : Int) + 1) * 2 + (x : Int) = c := ⟨_, rfl⟩
              rw [hca] at a0; rw [hcb] at a1; rw [hcc] at a2; rw [hcd] at a3
              have C0 := Lib.hid a0; have C1 := Lib.hid a1; have C2 := Lib.hid a2; have C3 := Lib.hid a3
              have HEV := Lib.hid hev; have HOD := Lib.hid hod; have HBT := Lib.hid hbt; have HRW2 := Lib.hid hrow; have HBZ2 := Lib.hid hbw
              have HCA := Lib.hid hca; have HCB := Lib.hid hcb; have HCC := Lib.hid hcc; have HCD := Lib.hid hcd
              obtain ⟨kk, hkk⟩ : ∃ kk : Nat, y * 1 + x = kk := ⟨_, rfl⟩
              have hkk4 : kk < 4 := by omega
              rw [hkk] at hbt
              unfold bitB at hbt
              have na : (((y * 2 + x : Nat)) : Int) = ca := by omega
              have nb : (((y * 2 + (x + 1) : Nat)) : Int) = cb := by omega
              have nc : ((((y + 1) * 2 + (x + 1) : Nat)) : Int) = cc := by omega
              have nd : ((((y + 1) * 2 + x : Nat)) : Int) = cd := by omega
              have HKK := Lib.hid hkk
              rw [hkk]
              have HNA := Lib.hid (And.intro na (And.intro nb (And.intro nc nd)))
              clear a0 a1 a2 a3 hev hod hrow hbw hca hcb hcc hcd cw hkk na nb nc nd hq
              cases q
              · have hev' : (gridT 1 2 bn)[2 * (y * 1 + x)]? = some (y * 2 + (x + 1), (y + 1) * 2 + x, y * 2 + x) := HEV.out
                have hod' : (gridT 1 2 bn)[2 * (y * 1 + x) + 1]? = some ((y + 1) * 2 + x, y * 2 + (x + 1), (y + 1) * 2 + (x + 1)) := HOD.out
                have HEV' := Lib.hid hev'; have HOD' := Lib.hid hod'
                clear hev' hod'
                go_wp2_with fail
                refine C0.out.mono ?_
                rintro e w6 ⟨rfl, rfl⟩
                go_wp2_with fail
                refine C1.out.mono ?_
                rintro e w6 ⟨rfl, rfl⟩
                go_wp2_with fail
                refine C2.out.mono ?_
                rintro e w6 ⟨rfl, rfl⟩
                go_wp2_with fail
                refine C3.out.mono ?_
                rintro e w6 ⟨rfl, rfl⟩
                obtain ⟨w6, hw6, hpn, hb6, hs6⟩ := new_box wr _ rfl [.int .i64 cb, .int .i64 cd, .int .i64 ca, .int .i64 cd, .int .i64 cb, .int .i64 cc] 23
                have hrow6 := HRW2.out.below hb6
                have hbw6 := HBZ2.out.trans (hb6.mono HBZ2.out.size)
                obtain ⟨v1, w7, hrun, rown, hgrow, hkept⟩ := run_append_row (P := Try.prog) w6 w5.heap.size 50 50 23 j0 (.agg #[.int .i64 0, .int .i64 0, .int .i64 0]) 3 24 (by kernel_rfl) HJ.out HY0.out HY1.out HY2.out rfl (noWordI3 _ _ _) _ (2 * (y * 1 + x)) _ hrow6 ⟨wr.heap.size, 0, none⟩ 2 2 [.int .i64 cb, .int .i64 cd, .int .i64 ca, .int .i64 cd, .int .i64 cb, .int .i64 cc] (by omega) rfl hpn.news (by intro u hu; simp at hu; rcases hu with rfl | rfl | rfl | rfl | rfl | rfl <;> rfl) (noWordI6 _ _ _ _ _ _) (by unfold maxLen; omega) (by omega) (by have := hbw6.size; omega)
                have hbw7 : Below w5.heap.size w5 w7 := hbw6.grown hgrow (by have := hbw6.size; omega) (fun k hk => (hrow6.lt k hk).1)
                have htk : tr3Cells ((gridT 1 2 bn).take (2 * (y * 1 + x))) ++ [.int .i64 cb, .int .i64 cd, .int .i64 ca, .int .i64 cd, .int .i64 cb, .int .i64 cc] = tr3Cells ((gridT 1 2 bn).take (2 * (y * 1 + (x + 1)))) := by
                  obtain ⟨na, nb, nc, nd⟩ := HNA.out
                  rw [show 2 * (y * 1 + (x + 1)) = 2 * (y * 1 + x) + 1 + 1 by omega, List.take_add_one, List.take_add_one, HEV'.out, HOD'.out, tr3_app, tr3_app, List.append_assoc]
                  simp only [Option.toList_some, tr3Cells, na, nb, nc, nd, List.cons_append, List.nil_append]
                rw [htk, show 2 * (y * 1 + x) + 2 = 2 * (y * 1 + (x + 1)) by omega] at rown
                have FIN := Lib.hid (And.intro rown hbw7)
                clear hpn hb6 hs6 hrow6 hbw6 rown hgrow hkept hbw7 htk
                go_wp2_with (refine wpList_append_row rfl _ _ 50 rfl rfl rfl hrun ?_)
                have hkk := HKK.out
                refine ⟨⟨_, _, _, _, _, _, _, _, _, _, _, _, _, _, _, _, _, _, _, _, _, _, _, _, _, _, _, _, _, _, _, _, _, _, _, _, _, _, _, _, _, _, _, _, _, _, _, _, _, _, _, _, _, _, _, _, _, _, _, _, ?_, rfl⟩, by simp [intOf]; omega⟩
                exact ⟨x + 1, _, by omega, by go_num, congrArg (Value.int .i64) (by omega), rfl, FIN.out.1, FIN.out.2⟩
              · have hev' : (gridT 1 2 bn)[2 * (y * 1 + x)]? = some (y * 2 + x, y * 2 + (x + 1), (y + 1) * 2 + (x + 1)) := HEV.out
                have hod' : (gridT 1 2 bn)[2 * (y * 1 + x) + 1]? = some ((y + 1) * 2 + (x + 1), (y + 1) * 2 + x, y * 2 + x) := HOD.out
                have HEV' := Lib.hid hev'; have HOD' := Lib.hid hod'
                clear hev' hod'
                go_wp2_with fail
                refine C0.out.mono ?_
                rintro e w6 ⟨rfl, rfl⟩
                go_wp2_with fail
                refine C1.out.mono ?_
                rintro e w6 ⟨rfl, rfl⟩
                go_wp2_with fail
                refine C2.out.mono ?_
                rintro e w6 ⟨rfl, rfl⟩
                go_wp2_with fail
                refine C3.out.mono ?_
                rintro e w6 ⟨rfl, rfl⟩
                obtain ⟨w6, hw6, hpn, hb6, hs6⟩ := new_box wr _ rfl [.int .i64 ca, .int .i64 cb, .int .i64 cc, .int .i64 cc, .int .i64 cd, .int .i64 ca] 23
                have hrow6 := HRW2.out.below hb6
                have hbw6 := HBZ2.out.trans (hb6.mono HBZ2.out.size)
                obtain ⟨v1, w7, hrun, rown, hgrow, hkept⟩ := run_append_row (P := Try.prog) w6 w5.heap.size 50 50 23 j0 (.agg #[.int .i64 0, .int .i64 0, .int .i64 0]) 3 24 (by kernel_rfl) HJ.out HY0.out HY1.out HY2.out rfl (noWordI3 _ _ _) _ (2 * (y * 1 + x)) _ hrow6 ⟨wr.heap.size, 0, none⟩ 2 2 [.int .i64 ca, .int .i64 cb, .int .i64 cc, .int .i64 cc, .int .i64 cd, .int .i64 ca] (by omega) rfl hpn.news (by intro u hu; simp at hu; rcases hu with rfl | rfl | rfl | rfl | rfl | rfl <;> rfl) (noWordI6 _ _ _ _ _ _) (by unfold maxLen; omega) (by omega) (by have := hbw6.size; omega)
                have hbw7 : Below w5.heap.size w5 w7 := hbw6.grown hgrow (by have := hbw6.size; omega) (fun k hk => (hrow6.lt k hk).1)
                have htk : tr3Cells ((gridT 1 2 bn).take (2 * (y * 1 + x))) ++ [.int .i64 ca, .int .i64 cb, .int .i64 cc, .int .i64 cc, .int .i64 cd, .int .i64 ca] = tr3Cells ((gridT 1 2 bn).take (2 * (y * 1 + (x + 1)))) := by
                  obtain ⟨na, nb, nc, nd⟩ := HNA.out
                  rw [show 2 * (y * 1 + (x + 1)) = 2 * (y * 1 + x) + 1 + 1 by omega, List.take_add_one, List.take_add_one, HEV'.out, HOD'.out, tr3_app, tr3_app, List.append_assoc]
                  simp only [Option.toList_some, tr3Cells, na, nb, nc, nd, List.cons_append, List.nil_append]
                rw [htk, show 2 * (y * 1 + x) + 2 = 2 * (y * 1 + (x + 1)) by omega] at rown
                have FIN := Lib.hid (And.intro rown hbw7)
                clear hpn hb6 hs6 hrow6 hbw6 rown hgrow hkept hbw7 htk
                go_wp2_with (refine wpList_append_row rfl _ _ 50 rfl rfl rfl hrun ?_)
                have hkk := HKK.out
                refine ⟨⟨_, _, _, _, _, _, _, _, _, _, _, _, _, _, _, _, _, _, _, _, _, _, _, _, _, _, _, _, _, _, _, _, _, _, _, _, _, _, _, _, _, _, _, _, _, _, _, _, _, _, _, _, _, _, _, _, _, _, _, _, ?_, rfl⟩, by simp [intOf]; omega⟩
                exact ⟨x + 1, _, by omega, by go_num, congrArg (Value.int .i64) (by omega), rfl, FIN.out.1, FIN.out.2⟩
            · obtain rfl : x = 1 := by omega
              have FIN := Lib.hid (And.intro hrow hbw)
              clear hrow hbw
              go_wp2
              have hrow := FIN.out.1
              rw [show y * 1 + 1 = (y + 1) * 1 by omega] at hrow
              exact ⟨⟨y + 1, _, by omega, by go_num, congrArg (Value.int .i64) (by omega), rfl, hrow, FIN.out.2⟩, by simp [intOf]; omega⟩
        · obtain rfl : y = 2 := by omega
          have hgl := HM.out.len
          have htt : (gridT 1 2 bn).take (2 * (2 * 1)) = gridT 1 2 bn := List.take_of_length_le (by rw [hgl]; omega)
          rw [htt] at hrow
          obtain ⟨gt, gtc, hvv⟩ : ∃ g c, vv = .slice (some ⟨g, 0, none⟩) 4 c := by
            rcases hrow.2 with ⟨h1, h2⟩ | ⟨g, cap, cur, h1, h2, h3⟩
            · omega
            · exact ⟨g, cap, h1⟩
          subst hvv
          have hgtl := hrow.lt gt rfl
          obtain ⟨w7, hw7⟩ : ∃ w7, w7 = wr := ⟨_, rfl⟩
          rw [← hw7] at hrow hbw hgtl
          rw [← hw7]
          clear hw7
          obtain ⟨fb, hfb⟩ : ∃ fb, w7.heap.size = fb := ⟨_, rfl⟩
          obtain ⟨hmk, hmp⟩ := run_new_map (P := Try.prog) w7 93 48
          obtain ⟨w8, hw8⟩ : ∃ w8, w7.alloc (.map #[] 0) = w8 := ⟨_, rfl⟩
          rw [hw8, hfb] at hmk hmp
          have hb8 : Below fb w7 w8 := by rw [← hw8, ← hfb]; exact (Below.refl _ _).alloc (Nat.le_refl _) _
          have htr := hrow.trIn
          have HRWT := Lib.hid hrow; have HBT := Lib.hid hbw; have HTR := Lib.hid htr; have HGTL := Lib.hid hgtl; have HFB := Lib.hid hfb; have HMP := Lib.hid (fault_new hmp); have HB8 := Lib.hid hb8
          clear hrow hbw htr hgtl hfb hmp hb8 hw8
          go_wp2
          clear hmk
          go_loopw [23, 25, 26, 116] (fun nv _ _ iv wr => ∃ j : Nat, j ≤ 4 ∧ iv = .int .i64 (j : Int) ∧ nv = .int .i64 ((3 * j : Nat) : Int) ∧ (∃ F, FaultMap Try.prog 48 wr fb F) ∧ Below fb w7 wr) (fun _ _ _ iv _ => 4 - (intOf iv).toNat)
          case atStart => exact ⟨0, Nat.zero_le _, rfl, rfl, ⟨_, HMP.out⟩, HB8.out⟩
          case round =>
            obtain ⟨j, hj, rfl, rfl, ⟨F, hF⟩, hbw⟩ := hrel
            by_cases hlt : j < 4
            · have hyd : decide ((j : Int) < 4) = true := decide_eq_true (by omega)
              obtain ⟨⟨x, y, z⟩, hv⟩ : ∃ v, (gridT 1 2 bn)[j]? = some v := ⟨_, List.getElem?_eq_getElem (by have := HM.out.len; omega)⟩
              obtain ⟨px, py, pz⟩ := OK.out.pts _ (List.mem_of_getElem? hv)
              have hpl6 := OK.out.many
              simp only [] at px py pz
              have htk := HTR.out j (x : Int) (y : Int) (z : Int) (by rw [List.getElem?_map, hv]; rfl)
              have hfb := HFB.out
              have l1 := World.block_lt_of_cell? w7 _ htk.1
              simp only [] at l1
              have ka := (hbw.cell (p := ⟨gt, j * 3, none⟩) (by show gt < fb; omega)).trans htk.1
              have kb := (hbw.cell (p := ⟨gt, j * 3 + 1, none⟩) (by show gt < fb; omega)).trans htk.2.1
              have kc := (hbw.cell (p := ⟨gt, j * 3 + 2, none⟩) (by show gt < fb; omega)).trans htk.2.2
              obtain ⟨w9, hw9, hpv, hb9, hs9⟩ := new_box wr _ rfl [.int .i64 (x : Int), .int .i64 (y : Int), .int .i64 (z : Int)] 23
              have hF9 := hF.same (hb9.block fb hF.lt)
              have hfl := hF.lt
              have hbw9 : Below fb w7 w9 := hbw.trans (hb9.mono (by omega))
              obtain ⟨tb, htb⟩ : ∃ tb, wr.heap.size = tb := ⟨_, rfl⟩
              have htf : fb < tb := by omega
              rw [htb] at hpv
              have HF9 := Lib.hid hF9; have HBW9 := Lib.hid hbw9; have HPV := Lib.hid hpv
              have hxyz : x < 10 ∧ y < 10 ∧ z < 10 := by
                have : (gridP 1 2).length = 6 := rfl
                omega
              clear hv px py pz htk hfb l1 hb9 hs9 hF9 hbw9 hpv hF hbw hfl hpl6
              go_wp2
              clear ka kb kc hw9 htb
              go_loopw [23, 26, 120] (fun nv _ iv wr => ∃ i : Nat, i ≤ 3 ∧ iv = .int .i64 (i : Int) ∧ nv = .int .i64 ((3 * j + i : Nat) : Int) ∧ (∃ F, FaultMap Try.prog 48 wr fb F) ∧ Box wr tb [.int .i64 (x : Int), .int .i64 (y : Int), .int .i64 (z : Int)] ∧ Below fb w7 wr) (fun _ _ iv _ => 3 - (intOf iv).toNat)
              case atStart => exact ⟨0, Nat.zero_le _, rfl, rfl, ⟨_, HF9.out⟩, HPV.out, HBW9.out⟩
              case round =>
                obtain ⟨i, hi, rfl, rfl, ⟨F2, hF2⟩, hbx, hbw⟩ := hrel
                by_cases hli : i < 3
                · obtain ⟨nn, hnn⟩ : ∃ nn : Nat, 3 * j + i = nn := ⟨_, rfl⟩
                  have hnn24 : nn < 24 := by omega
                  have HNN := Lib.hid hnn
                  rw [hnn]
                  clear hnn
                  have HF2 := Lib.hid hF2; have HBX2 := Lib.hid hbx; have HBW2 := Lib.hid hbw
                  clear hF2 hbx hbw
                  obtain ⟨q, hq⟩ : ∃ q : Bool, (bits .and .u32 (f / 2 ^ (nn % 32)) 1 == 1) = q := ⟨_, rfl⟩
                  have hfb2 := HF2.out.lt
                  have hd3 := (HF2.out.same (w' := wr.drew) rfl)
                  have hx3 := HBX2.out.drew
                  have hw3 := HBW2.out.drew'
                  have HF3 := Lib.hid hd3; have HBX3 := Lib.hid hx3; have HBW3 := Lib.hid hw3
                  clear hd3 hx3 hw3
                  cases q
                  · go_wp2
                    have hnn := HNN.out
                    exact ⟨⟨i + 1, by omega, by go_num, congrArg (Value.int .i64) (by omega), ⟨_, HF2.out⟩, HBX2.out, HBW2.out⟩, by simp [intOf]; omega⟩
                  · obtain rfl | rfl | rfl : i = 0 ∨ i = 1 ∨ i = 2 := by omega
                    · obtain ⟨mn, hmn⟩ : ∃ mn : Int, (if (y : Int) < (x : Int) then (y : Int) else (x : Int)) = mn := ⟨_, rfl⟩
                      obtain ⟨mx, hmx⟩ : ∃ mx : Int, (if (y : Int) > (x : Int) then (y : Int) else (x : Int)) = mx := ⟨_, rfl⟩
                      have bmn : -1000000 ≤ mn ∧ mn ≤ 1000000 := by rw [← hmn]; split <;> omega
                      have bmx : -1000000 ≤ mx ∧ mx ≤ 1000000 := by rw [← hmx]; split <;> omega
                      have hmin : ∀ w : World, Sem.run Try.prog (Builtin.min_ #[3, 3] 3 #[.int .i64 (x : Int), .int .i64 (y : Int)]) w = Result.ok (Value.int .i64 mn) w := fun w => by rw [run_min_int2, hmn]
                      have hmax : ∀ w : World, Sem.run Try.prog (Builtin.max_ #[3, 3] 3 #[.int .i64 (x : Int), .int .i64 (y : Int)]) w = Result.ok (Value.int .i64 mx) w := fun w => by rw [run_max_int2, hmx]
                      have hwk : (IntKind.i64.wrap 1).tmod 3 = 1 := by decide
                      obtain ⟨wm, F4, hup, hT4, hF4⟩ := fault_store HF3.out bmn bmx
                      have hx0 := HBX3.out.c 0 _ rfl; have hx1 := HBX3.out.c 1 _ rfl
                      have hbx4 := HBX3.out.turned hT4 (by omega)
                      have hbw4 : Below fb w7 wm := Below.turned HBW3.out hT4 (Nat.le_refl _)
                      have hy0 := hbx4.c 0 _ rfl; have hy1 := hbx4.c 1 _ rfl
                      have FIN := Lib.hid (And.intro hF4 (And.intro hbx4 hbw4))
                      clear hmn hmx bmn bmx hT4 hF4 hbx4 hbw4
                      go_wp2_with fail
                      obtain ⟨SSs, hSSs⟩ : ∃ S : Array Bool → World → Prop, ∀ l w', S l w' ↔ ((w'.cell? ⟨tb, 0, none⟩ = some (.int .i64 (x : Int))) ∧ (w'.cell? ⟨tb, 1, none⟩ = some (.int .i64 (y : Int)))) := ⟨_, fun _ _ => Iff.rfl⟩
                      refine wp_region_noPanic ?_
                      refine wp_region_G SSs 21 #[false, false, false, false, false, false, false, false, false, false, false, false, false, false, false, false, false, false, false, false, false] (by kernel_rfl) (by kernel_rfl) (by kernel_rfl) ((hSSs _ _).2 ⟨hx0, hx1⟩) (fun hCl hHeld => ?_)
                      generalize wr.drew = wd at *
                      refine reg_takeG 0 ?_ ?_ ?_ (by kernel_rfl) (by kernel_rfl) (by kernel_rfl) (fun _ _ _ h => h) ?_ ?_ ?_ hCl hHeld ?_
                      rotate_left 2
                      · simp only [List.getElem?_toArray, List.getElem?_cons_zero]; exact rfl
                      · intro l w'; rw [hSSs, hSSs]
                      · rfl
                      · intro w' hA; clear hA; go_simp; try with_reducible rfl
                      clear hCl hHeld
                      intro hCl hHeld
                      simp only [List.setIfInBounds_toArray, List.set_cons_zero] at hCl hHeld
                      try simp only [Act.put]
                      try simp only [List.setIfInBounds_toArray, List.set_cons_zero, List.set_cons_succ]
                      refine reg_takeG 1 ?_ ?_ ?_ (by kernel_rfl) (by kernel_rfl) (by kernel_rfl) (fun _ _ _ h => h) ?_ ?_ ?_ hCl hHeld ?_
                      rotate_left 2
                      · simp only [List.getElem?_toArray, List.getElem?_cons_succ, List.getElem?_cons_zero]; exact rfl
                      · intro l w'; rw [hSSs, hSSs]
                      · rfl
                      · intro w' hA; clear hA; go_simp; try with_reducible rfl
                      clear hCl hHeld
                      intro hCl hHeld
                      simp only [List.setIfInBounds_toArray, List.set_cons_zero, List.set_cons_succ] at hCl hHeld
                      try simp only [Act.put]
                      try simp only [List.setIfInBounds_toArray, List.set_cons_zero, List.set_cons_succ]
                      refine reg_takeG 2 ?_ ?_ ?_ (by kernel_rfl) (by kernel_rfl) (by kernel_rfl) (fun _ _ _ h => h) ?_ ?_ ?_ hCl hHeld ?_
                      rotate_left 2
                      · simp only [List.getElem?_toArray, List.getElem?_cons_succ, List.getElem?_cons_zero]; exact rfl
                      · intro l w'; rw [hSSs, hSSs]
                      · rfl
                      · intro w' hA; clear hA; go_simp; try with_reducible rfl
                      clear hCl hHeld
                      intro hCl hHeld
                      simp only [List.setIfInBounds_toArray, List.set_cons_zero, List.set_cons_succ] at hCl hHeld
                      try simp only [Act.put]
                      try simp only [List.setIfInBounds_toArray, List.set_cons_zero, List.set_cons_succ]
                      refine reg_takeG 3 ?_ ?_ ?_ (by kernel_rfl) (by kernel_rfl) (by kernel_rfl) (fun _ _ _ h => h) ?_ ?_ ?_ hCl hHeld ?_
                      rotate_left 2
                      · simp only [List.getElem?_toArray, List.getElem?_cons_succ, List.getElem?_cons_zero]; exact rfl
                      · intro l w'; rw [hSSs, hSSs]
                      · rfl
                      · intro w' hA; obtain ⟨l, hl, hi, hSl⟩ := hA; have hSl := (hSSs _ _).1 hSl; obtain ⟨hz0, hz1⟩ := hSl; go_simp; try with_reducible rfl
                      clear hCl hHeld
                      intro hCl hHeld
                      simp only [List.setIfInBounds_toArray, List.set_cons_zero, List.set_cons_succ] at hCl hHeld
                      try simp only [Act.put]
                      try simp only [List.setIfInBounds_toArray, List.set_cons_zero, List.set_cons_succ]
                      refine reg_takeG 4 ?_ ?_ ?_ (by kernel_rfl) (by kernel_rfl) (by kernel_rfl) (fun _ _ _ h => h) ?_ ?_ ?_ hCl hHeld ?_
                      rotate_left 2
                      · simp only [List.getElem?_toArray, List.getElem?_cons_succ, List.getElem?_cons_zero]; exact rfl
                      · intro l w'; rw [hSSs, hSSs]
                      · rfl
                      · intro w' hA; clear hA; go_simp; try with_reducible rfl
                      clear hCl hHeld
                      intro hCl hHeld
                      simp only [List.setIfInBounds_toArray, List.set_cons_zero, List.set_cons_succ] at hCl hHeld
                      try simp only [Act.put]
                      try simp only [List.setIfInBounds_toArray, List.set_cons_zero, List.set_cons_succ]
                      refine reg_takeG 5 ?_ ?_ ?_ (by kernel_rfl) (by kernel_rfl) (by kernel_rfl) (fun _ _ _ h => h) ?_ ?_ ?_ hCl hHeld ?_
                      rotate_left 2
                      · simp only [List.getElem?_toArray, List.getElem?_cons_succ, List.getElem?_cons_zero]; exact rfl
                      · intro l w'; rw [hSSs, hSSs]
                      · rfl
                      · intro w' hA; clear hA; go_simp; try with_reducible rfl
                      clear hCl hHeld
                      intro hCl hHeld
                      simp only [List.setIfInBounds_toArray, List.set_cons_zero, List.set_cons_succ] at hCl hHeld
                      try simp only [Act.put]
                      try simp only [List.setIfInBounds_toArray, List.set_cons_zero, List.set_cons_succ]
                      refine reg_takeG 6 ?_ ?_ ?_ (by kernel_rfl) (by kernel_rfl) (by kernel_rfl) (fun _ _ _ h => h) ?_ ?_ ?_ hCl hHeld ?_
                      rotate_left 2
                      · simp only [List.getElem?_toArray, List.getElem?_cons_succ, List.getElem?_cons_zero]; exact rfl
                      · intro l w'; rw [hSSs, hSSs]
                      · rfl
                      · intro w' hA; clear hA; go_simp; try with_reducible rfl
                      clear hCl hHeld
                      intro hCl hHeld
                      simp only [List.setIfInBounds_toArray, List.set_cons_zero, List.set_cons_succ] at hCl hHeld
                      try simp only [Act.put]
                      try simp only [List.setIfInBounds_toArray, List.set_cons_zero, List.set_cons_succ]
                      refine reg_takeG 7 ?_ ?_ ?_ (by kernel_rfl) (by kernel_rfl) (by kernel_rfl) (fun _ _ _ h => h) ?_ ?_ ?_ hCl hHeld ?_
                      rotate_left 2
                      · simp only [List.getElem?_toArray, List.getElem?_cons_succ, List.getElem?_cons_zero]; exact rfl
                      · intro l w'; rw [hSSs, hSSs]
                      · rfl
                      · intro w' hA; clear hA; go_simp; try with_reducible rfl
                      clear hCl hHeld
                      intro hCl hHeld
                      simp only [List.setIfInBounds_toArray, List.set_cons_zero, List.set_cons_succ] at hCl hHeld
                      try simp only [Act.put]
                      try simp only [List.setIfInBounds_toArray, List.set_cons_zero, List.set_cons_succ]
                      refine reg_takeG 8 ?_ ?_ ?_ (by kernel_rfl) (by kernel_rfl) (by kernel_rfl) (fun _ _ _ h => h) ?_ ?_ ?_ hCl hHeld ?_
                      rotate_left 2
                      · simp only [List.getElem?_toArray, List.getElem?_cons_succ, List.getElem?_cons_zero]; exact rfl
                      · intro l w'; rw [hSSs, hSSs]
                      · rfl
                      · intro w' hA; obtain ⟨l, hl, hi, hSl⟩ := hA; have hSl := (hSSs _ _).1 hSl; obtain ⟨hz0, hz1⟩ := hSl; go_simp; try with_reducible rfl
                      clear hCl hHeld
                      intro hCl hHeld
                      simp only [List.setIfInBounds_toArray, List.set_cons_zero, List.set_cons_succ] at hCl hHeld
                      try simp only [Act.put]
                      try simp only [List.setIfInBounds_toArray, List.set_cons_zero, List.set_cons_succ]
                      refine reg_takeG 9 ?_ ?_ ?_ (by kernel_rfl) (by kernel_rfl) (by kernel_rfl) (fun _ _ _ h => h) ?_ ?_ ?_ hCl hHeld ?_
                      rotate_left 2
                      · simp only [List.getElem?_toArray, List.getElem?_cons_succ, List.getElem?_cons_zero]; exact rfl
                      · intro l w'; rw [hSSs, hSSs]
                      · rfl
                      · intro w' hA; clear hA; go_simp; try with_reducible rfl
                      clear hCl hHeld
                      intro hCl hHeld
                      simp only [List.setIfInBounds_toArray, List.set_cons_zero, List.set_cons_succ] at hCl hHeld
                      try simp only [Act.put]
                      try simp only [List.setIfInBounds_toArray, List.set_cons_zero, List.set_cons_succ]
                      refine reg_takeG 10 ?_ ?_ ?_ (by kernel_rfl) (by kernel_rfl) (by kernel_rfl) (fun _ _ _ h => h) ?_ ?_ ?_ hCl hHeld ?_
                      rotate_left 2
                      · simp only [List.getElem?_toArray, List.getElem?_cons_succ, List.getElem?_cons_zero]; exact rfl
                      · intro l w'; rw [hSSs, hSSs]
                      · rfl
                      · intro w' hA; clear hA; go_simp; try with_reducible rfl
                      clear hCl hHeld
                      intro hCl hHeld
                      simp only [List.setIfInBounds_toArray, List.set_cons_zero, List.set_cons_succ] at hCl hHeld
                      try simp only [Act.put]
                      try simp only [List.setIfInBounds_toArray, List.set_cons_zero, List.set_cons_succ]
                      refine reg_takeG 11 ?_ ?_ ?_ (by kernel_rfl) (by kernel_rfl) (by kernel_rfl) (fun _ _ _ h => h) ?_ ?_ ?_ hCl hHeld ?_
                      rotate_left 2
                      · simp only [List.getElem?_toArray, List.getElem?_cons_succ, List.getElem?_cons_zero]; exact rfl
                      · intro l w'; rw [hSSs, hSSs]
                      · rfl
                      · intro w' hA; clear hA; go_simp; try with_reducible rfl
                      clear hCl hHeld
                      intro hCl hHeld
                      simp only [List.setIfInBounds_toArray, List.set_cons_zero, List.set_cons_succ] at hCl hHeld
                      try simp only [Act.put]
                      try simp only [List.setIfInBounds_toArray, List.set_cons_zero, List.set_cons_succ]
                      refine reg_takeG 12 ?_ ?_ ?_ (by kernel_rfl) (by kernel_rfl) (by kernel_rfl) (fun _ _ _ h => h) ?_ ?_ ?_ hCl hHeld ?_
                      rotate_left 2
                      · simp only [List.getElem?_toArray, List.getElem?_cons_succ, List.getElem?_cons_zero]; exact rfl
                      · intro l w'; rw [hSSs, hSSs]
                      · rfl
                      · intro w' hA; obtain ⟨l, hl, hi, hSl⟩ := hA; have hSl := (hSSs _ _).1 hSl; obtain ⟨hz0, hz1⟩ := hSl; go_simp; try with_reducible rfl
                      clear hCl hHeld
                      intro hCl hHeld
                      simp only [List.setIfInBounds_toArray, List.set_cons_zero, List.set_cons_succ] at hCl hHeld
                      try simp only [Act.put]
                      try simp only [List.setIfInBounds_toArray, List.set_cons_zero, List.set_cons_succ]
                      refine reg_takeG 13 ?_ ?_ ?_ (by kernel_rfl) (by kernel_rfl) (by kernel_rfl) (fun _ _ _ h => h) ?_ ?_ ?_ hCl hHeld ?_
                      rotate_left 2
                      · simp only [List.getElem?_toArray, List.getElem?_cons_succ, List.getElem?_cons_zero]; exact rfl
                      · intro l w'; rw [hSSs, hSSs]
                      · rfl
                      · intro w' hA; clear hA; go_simp; try with_reducible rfl
                      clear hCl hHeld
                      intro hCl hHeld
                      simp only [List.setIfInBounds_toArray, List.set_cons_zero, List.set_cons_succ] at hCl hHeld
                      try simp only [Act.put]
                      try simp only [List.setIfInBounds_toArray, List.set_cons_zero, List.set_cons_succ]
                      refine reg_takeG 14 ?_ ?_ ?_ (by kernel_rfl) (by kernel_rfl) (by kernel_rfl) (fun _ _ _ h => h) ?_ ?_ ?_ hCl hHeld ?_
                      rotate_left 2
                      · simp only [List.getElem?_toArray, List.getElem?_cons_succ, List.getElem?_cons_zero]; exact rfl
                      · intro l w'; rw [hSSs, hSSs]
                      · rfl
                      · intro w' hA; clear hA; go_simp; try with_reducible rfl
                      clear hCl hHeld
                      intro hCl hHeld
                      simp only [List.setIfInBounds_toArray, List.set_cons_zero, List.set_cons_succ] at hCl hHeld
                      try simp only [Act.put]
                      try simp only [List.setIfInBounds_toArray, List.set_cons_zero, List.set_cons_succ]
                      refine reg_takeG 15 ?_ ?_ ?_ (by kernel_rfl) (by kernel_rfl) (by kernel_rfl) (fun _ _ _ h => h) ?_ ?_ ?_ hCl hHeld ?_
                      rotate_left 2
                      · simp only [List.getElem?_toArray, List.getElem?_cons_succ, List.getElem?_cons_zero]; exact rfl
                      · intro l w'; rw [hSSs, hSSs]
                      · rfl
                      · intro w' hA; clear hA; go_simp; try with_reducible rfl
                      clear hCl hHeld
                      intro hCl hHeld
                      simp only [List.setIfInBounds_toArray, List.set_cons_zero, List.set_cons_succ] at hCl hHeld
                      try simp only [Act.put]
                      try simp only [List.setIfInBounds_toArray, List.set_cons_zero, List.set_cons_succ]
                      refine reg_takeG 16 ?_ ?_ ?_ (by kernel_rfl) (by kernel_rfl) (by kernel_rfl) (fun _ _ _ h => h) ?_ ?_ ?_ hCl hHeld ?_
                      rotate_left 2
                      · simp only [List.getElem?_toArray, List.getElem?_cons_succ, List.getElem?_cons_zero]; exact rfl
                      · intro l w'; rw [hSSs, hSSs]
                      · rfl
                      · intro w' hA; clear hA; go_simp; try with_reducible rfl
                      clear hCl hHeld
                      intro hCl hHeld
                      simp only [List.setIfInBounds_toArray, List.set_cons_zero, List.set_cons_succ] at hCl hHeld
                      try simp only [Act.put]
                      try simp only [List.setIfInBounds_toArray, List.set_cons_zero, List.set_cons_succ]
                      refine reg_takeG 17 ?_ ?_ ?_ (by kernel_rfl) (by kernel_rfl) (by kernel_rfl) (fun _ _ _ h => h) ?_ ?_ ?_ hCl hHeld ?_
                      rotate_left 2
                      · simp only [List.getElem?_toArray, List.getElem?_cons_succ, List.getElem?_cons_zero]; exact rfl
                      · intro l w'; rw [hSSs, hSSs]
                      · rfl
                      · intro w' hA; obtain ⟨l, hl, hi, hSl⟩ := hA; have hSl := (hSSs _ _).1 hSl; obtain ⟨hz0, hz1⟩ := hSl; go_simp; try with_reducible rfl
                      clear hCl hHeld
                      intro hCl hHeld
                      simp only [List.setIfInBounds_toArray, List.set_cons_zero, List.set_cons_succ] at hCl hHeld
                      try simp only [Act.put]
                      try simp only [List.setIfInBounds_toArray, List.set_cons_zero, List.set_cons_succ]
                      refine reg_takeG 18 ?_ ?_ ?_ (by kernel_rfl) (by kernel_rfl) (by kernel_rfl) (fun _ _ _ h => h) ?_ ?_ ?_ hCl hHeld ?_
                      rotate_left 2
                      · simp only [List.getElem?_toArray, List.getElem?_cons_succ, List.getElem?_cons_zero]; exact rfl
                      · intro l w'; rw [hSSs, hSSs]
                      · rfl
                      · intro w' hA; clear hA; go_simp; try with_reducible rfl
                      clear hCl hHeld
                      intro hCl hHeld
                      simp only [List.setIfInBounds_toArray, List.set_cons_zero, List.set_cons_succ] at hCl hHeld
                      try simp only [Act.put]
                      try simp only [List.setIfInBounds_toArray, List.set_cons_zero, List.set_cons_succ]
                      refine reg_takeG 19 ?_ ?_ ?_ (by kernel_rfl) (by kernel_rfl) (by kernel_rfl) (fun _ _ _ h => h) ?_ ?_ ?_ hCl hHeld ?_
                      rotate_left 2
                      · simp only [List.getElem?_toArray, List.getElem?_cons_succ, List.getElem?_cons_zero]; exact rfl
                      · intro l w'; rw [hSSs, hSSs]
                      · rfl
                      · intro w' hA; clear hA; go_simp; try with_reducible rfl
                      clear hCl hHeld
                      intro hCl hHeld
                      simp only [List.setIfInBounds_toArray, List.set_cons_zero, List.set_cons_succ] at hCl hHeld
                      try simp only [Act.put]
                      try simp only [List.setIfInBounds_toArray, List.set_cons_zero, List.set_cons_succ]
                      clear hCl hHeld
                      refine reg_callG 20 ?_ (by kernel_rfl) ?_ (fun K hK => ?_)
                      rotate_left 1
                      · simp only [List.getElem?_toArray, List.getElem?_cons_succ, List.getElem?_cons_zero]; exact rfl
                      go_simp
                      clear hx0 hx1 hup
                      refine hK.out _ _ ((hSSs _ _).2 ⟨hy0, hy1⟩) ?_
                      clear hK K
                      try simp only [Act.put]
                      try simp only [List.setIfInBounds_toArray, List.set_cons_zero, List.set_cons_succ]
                      refine wpAnyG_done (by kernel_rfl) ?_ _
                      refine NoPanic.normal ?_
                      clear hSSs SSs
                      go_wp2
                      have hnn := HNN.out
                      refine ⟨⟨_, _, _, _, _, _, _, _, _, _, _, _, _, _, _, _, _, _, _, _, _, _, _, _, _, _, _, _, _, _, _, _, _, _, ?_, rfl⟩, by simp [intOf]⟩
                      exact ⟨0 + 1, by omega, by go_num, congrArg (Value.int .i64) (by omega), ⟨_, FIN.out.1⟩, FIN.out.2.1, FIN.out.2.2⟩
                    · obtain ⟨mn, hmn⟩ : ∃ mn : Int, (if (z : Int) < (y : Int) then (z : Int) else (y : Int)) = mn := ⟨_, rfl⟩
                      obtain ⟨mx, hmx⟩ : ∃ mx : Int, (if (z : Int) > (y : Int) then (z : Int) else (y : Int)) = mx := ⟨_, rfl⟩
                      have bmn : -1000000 ≤ mn ∧ mn ≤ 1000000 := by rw [← hmn]; split <;> omega
                      have bmx : -1000000 ≤ mx ∧ mx ≤ 1000000 := by rw [← hmx]; split <;> omega
                      have hmin : ∀ w : World, Sem.run Try.prog (Builtin.min_ #[3, 3] 3 #[.int .i64 (y : Int), .int .i64 (z : Int)]) w = Result.ok (Value.int .i64 mn) w := fun w => by rw [run_min_int2, hmn]
                      have hmax : ∀ w : World, Sem.run Try.prog (Builtin.max_ #[3, 3] 3 #[.int .i64 (y : Int), .int .i64 (z : Int)]) w = Result.ok (Value.int .i64 mx) w := fun w => by rw [run_max_int2, hmx]
                      have hwk : (IntKind.i64.wrap 2).tmod 3 = 2 := by decide
                      obtain ⟨wm, F4, hup, hT4, hF4⟩ := fault_store HF3.out bmn bmx
                      have hx0 := HBX3.out.c 1 _ rfl; have hx1 := HBX3.out.c 2 _ rfl
                      have hbx4 := HBX3.out.turned hT4 (by omega)
                      have hbw4 : Below fb w7 wm := Below.turned HBW3.out hT4 (Nat.le_refl _)
                      have hy0 := hbx4.c 1 _ rfl; have hy1 := hbx4.c 2 _ rfl
                      have FIN := Lib.hid (And.intro hF4 (And.intro hbx4 hbw4))
                      clear hmn hmx bmn bmx hT4 hF4 hbx4 hbw4
                      go_wp2_with fail
                      obtain ⟨SSs, hSSs⟩ : ∃ S : Array Bool → World → Prop, ∀ l w', S l w' ↔ ((w'.cell? ⟨tb, 1, none⟩ = some (.int .i64 (y : Int))) ∧ (w'.cell? ⟨tb, 2, none⟩ = some (.int .i64 (z : Int)))) := ⟨_, fun _ _ => Iff.rfl⟩
                      refine wp_region_noPanic ?_
                      refine wp_region_G SSs 21 #[false, false, false, false, false, false, false, false, false, false, false, false, false, false, false, false, false, false, false, false, false] (by kernel_rfl) (by kernel_rfl) (by kernel_rfl) ((hSSs _ _).2 ⟨hx0, hx1⟩) (fun hCl hHeld => ?_)
                      generalize wr.drew = wd at *
                      refine reg_takeG 0 ?_ ?_ ?_ (by kernel_rfl) (by kernel_rfl) (by kernel_rfl) (fun _ _ _ h => h) ?_ ?_ ?_ hCl hHeld ?_
                      rotate_left 2
                      · simp only [List.getElem?_toArray, List.getElem?_cons_zero]; exact rfl
                      · intro l w'; rw [hSSs, hSSs]
                      · rfl
                      · intro w' hA; clear hA; go_simp; try with_reducible rfl
                      clear hCl hHeld
                      intro hCl hHeld
                      simp only [List.setIfInBounds_toArray, List.set_cons_zero] at hCl hHeld
                      try simp only [Act.put]
                      try simp only [List.setIfInBounds_toArray, List.set_cons_zero, List.set_cons_succ]
                      refine reg_takeG 1 ?_ ?_ ?_ (by kernel_rfl) (by kernel_rfl) (by kernel_rfl) (fun _ _ _ h => h) ?_ ?_ ?_ hCl hHeld ?_
                      rotate_left 2
                      · simp only [List.getElem?_toArray, List.getElem?_cons_succ, List.getElem?_cons_zero]; exact rfl
                      · intro l w'; rw [hSSs, hSSs]
                      · rfl
                      · intro w' hA; clear hA; go_simp; try with_reducible rfl
                      clear hCl hHeld
                      intro hCl hHeld
                      simp only [List.setIfInBounds_toArray, List.set_cons_zero, List.set_cons_succ] at hCl hHeld
                      try simp only [Act.put]
                      try simp only [List.setIfInBounds_toArray, List.set_cons_zero, List.set_cons_succ]
                      refine reg_takeG 2 ?_ ?_ ?_ (by kernel_rfl) (by kernel_rfl) (by kernel_rfl) (fun _ _ _ h => h) ?_ ?_ ?_ hCl hHeld ?_
                      rotate_left 2
                      · simp only [List.getElem?_toArray, List.getElem?_cons_succ, List.getElem?_cons_zero]; exact rfl
                      · intro l w'; rw [hSSs, hSSs]
                      · rfl
                      · intro w' hA; clear hA; go_simp; try with_reducible rfl
                      clear hCl hHeld
                      intro hCl hHeld
                      simp only [List.setIfInBounds_toArray, List.set_cons_zero, List.set_cons_succ] at hCl hHeld
                      try simp only [Act.put]
                      try simp only [List.setIfInBounds_toArray, List.set_cons_zero, List.set_cons_succ]
                      refine reg_takeG 3 ?_ ?_ ?_ (by kernel_rfl) (by kernel_rfl) (by kernel_rfl) (fun _ _ _ h => h) ?_ ?_ ?_ hCl hHeld ?_
                      rotate_left 2
                      · simp only [List.getElem?_toArray, List.getElem?_cons_succ, List.getElem?_cons_zero]; exact rfl
                      · intro l w'; rw [hSSs, hSSs]
                      · rfl
                      · intro w' hA; obtain ⟨l, hl, hi, hSl⟩ := hA; have hSl := (hSSs _ _).1 hSl; obtain ⟨hz0, hz1⟩ := hSl; go_simp; try with_reducible rfl
                      clear hCl hHeld
                      intro hCl hHeld
                      simp only [List.setIfInBounds_toArray, List.set_cons_zero, List.set_cons_succ] at hCl hHeld
                      try simp only [Act.put]
                      try simp only [List.setIfInBounds_toArray, List.set_cons_zero, List.set_cons_succ]
                      refine reg_takeG 4 ?_ ?_ ?_ (by kernel_rfl) (by kernel_rfl) (by kernel_rfl) (fun _ _ _ h => h) ?_ ?_ ?_ hCl hHeld ?_
                      rotate_left 2
                      · simp only [List.getElem?_toArray, List.getElem?_cons_succ, List.getElem?_cons_zero]; exact rfl
                      · intro l w'; rw [hSSs, hSSs]
                      · rfl
                      · intro w' hA; clear hA; go_simp; try with_reducible rfl
                      clear hCl hHeld
                      intro hCl hHeld
                      simp only [List.setIfInBounds_toArray, List.set_cons_zero, List.set_cons_succ] at hCl hHeld
                      try simp only [Act.put]
                      try simp only [List.setIfInBounds_toArray, List.set_cons_zero, List.set_cons_succ]
                      refine reg_takeG 5 ?_ ?_ ?_ (by kernel_rfl) (by kernel_rfl) (by kernel_rfl) (fun _ _ _ h => h) ?_ ?_ ?_ hCl hHeld ?_
                      rotate_left 2
                      · simp only [List.getElem?_toArray, List.getElem?_cons_succ, List.getElem?_cons_zero]; exact rfl
                      · intro l w'; rw [hSSs, hSSs]
                      · rfl
                      · intro w' hA; clear hA; go_simp; try with_reducible rfl
                      clear hCl hHeld
                      intro hCl hHeld
                      simp only [List.setIfInBounds_toArray, List.set_cons_zero, List.set_cons_succ] at hCl hHeld
                      try simp only [Act.put]
                      try simp only [List.setIfInBounds_toArray, List.set_cons_zero, List.set_cons_succ]
                      refine reg_takeG 6 ?_ ?_ ?_ (by kernel_rfl) (by kernel_rfl) (by kernel_rfl) (fun _ _ _ h => h) ?_ ?_ ?_ hCl hHeld ?_
                      rotate_left 2
                      · simp only [List.getElem?_toArray, List.getElem?_cons_succ, List.getElem?_cons_zero]; exact rfl
                      · intro l w'; rw [hSSs, hSSs]
                      · rfl
                      · intro w' hA; clear hA; go_simp; try with_reducible rfl
                      clear hCl hHeld
                      intro hCl hHeld
                      simp only [List.setIfInBounds_toArray, List.set_cons_zero, List.set_cons_succ] at hCl hHeld
                      try simp only [Act.put]
                      try simp only [List.setIfInBounds_toArray, List.set_cons_zero, List.set_cons_succ]
                      refine reg_takeG 7 ?_ ?_ ?_ (by kernel_rfl) (by kernel_rfl) (by kernel_rfl) (fun _ _ _ h => h) ?_ ?_ ?_ hCl hHeld ?_
                      rotate_left 2
                      · simp only [List.getElem?_toArray, List.getElem?_cons_succ, List.getElem?_cons_zero]; exact rfl
                      · intro l w'; rw [hSSs, hSSs]
                      · rfl
                      · intro w' hA; clear hA; go_simp; try with_reducible rfl
                      clear hCl hHeld
                      intro hCl hHeld
                      simp only [List.setIfInBounds_toArray, List.set_cons_zero, List.set_cons_succ] at hCl hHeld
                      try simp only [Act.put]
                      try simp only [List.setIfInBounds_toArray, List.set_cons_zero, List.set_cons_succ]
                      refine reg_takeG 8 ?_ ?_ ?_ (by kernel_rfl) (by kernel_rfl) (by kernel_rfl) (fun _ _ _ h => h) ?_ ?_ ?_ hCl hHeld ?_
                      rotate_left 2
                      · simp only [List.getElem?_toArray, List.getElem?_cons_succ, List.getElem?_cons_zero]; exact rfl
                      · intro l w'; rw [hSSs, hSSs]
                      · rfl
                      · intro w' hA; obtain ⟨l, hl, hi, hSl⟩ := hA; have hSl := (hSSs _ _).1 hSl; obtain ⟨hz0, hz1⟩ := hSl; go_simp; try with_reducible rfl
                      clear hCl hHeld
                      intro hCl hHeld
                      simp only [List.setIfInBounds_toArray, List.set_cons_zero, List.set_cons_succ] at hCl hHeld
                      try simp only [Act.put]
                      try simp only [List.setIfInBounds_toArray, List.set_cons_zero, List.set_cons_succ]
                      refine reg_takeG 9 ?_ ?_ ?_ (by kernel_rfl) (by kernel_rfl) (by kernel_rfl) (fun _ _ _ h => h) ?_ ?_ ?_ hCl hHeld ?_
                      rotate_left 2
                      · simp only [List.getElem?_toArray, List.getElem?_cons_succ, List.getElem?_cons_zero]; exact rfl
                      · intro l w'; rw [hSSs, hSSs]
                      · rfl
                      · intro w' hA; clear hA; go_simp; try with_reducible rfl
                      clear hCl hHeld
                      intro hCl hHeld
                      simp only [List.setIfInBounds_toArray, List.set_cons_zero, List.set_cons_succ] at hCl hHeld
                      try simp only [Act.put]
                      try simp only [List.setIfInBounds_toArray, List.set_cons_zero, List.set_cons_succ]
                      refine reg_takeG 10 ?_ ?_ ?_ (by kernel_rfl) (by kernel_rfl) (by kernel_rfl) (fun _ _ _ h => h) ?_ ?_ ?_ hCl hHeld ?_
                      rotate_left 2
                      · simp only [List.getElem?_toArray, List.getElem?_cons_succ, List.getElem?_cons_zero]; exact rfl
                      · intro l w'; rw [hSSs, hSSs]
                      · rfl
                      · intro w' hA; clear hA; go_simp; try with_reducible rfl
                      clear hCl hHeld
                      intro hCl hHeld
                      simp only [List.setIfInBounds_toArray, List.set_cons_zero, List.set_cons_succ] at hCl hHeld
                      try simp only [Act.put]
                      try simp only [List.setIfInBounds_toArray, List.set_cons_zero, List.set_cons_succ]
                      refine reg_takeG 11 ?_ ?_ ?_ (by kernel_rfl) (by kernel_rfl) (by kernel_rfl) (fun _ _ _ h => h) ?_ ?_ ?_ hCl hHeld ?_
                      rotate_left 2
                      · simp only [List.getElem?_toArray, List.getElem?_cons_succ, List.getElem?_cons_zero]; exact rfl
                      · intro l w'; rw [hSSs, hSSs]
                      · rfl
                      · intro w' hA; clear hA; go_simp; try with_reducible rfl
                      clear hCl hHeld
                      intro hCl hHeld
                      simp only [List.setIfInBounds_toArray, List.set_cons_zero, List.set_cons_succ] at hCl hHeld
                      try simp only [Act.put]
                      try simp only [List.setIfInBounds_toArray, List.set_cons_zero, List.set_cons_succ]
                      refine reg_takeG 12 ?_ ?_ ?_ (by kernel_rfl) (by kernel_rfl) (by kernel_rfl) (fun _ _ _ h => h) ?_ ?_ ?_ hCl hHeld ?_
                      rotate_left 2
                      · simp only [List.getElem?_toArray, List.getElem?_cons_succ, List.getElem?_cons_zero]; exact rfl
                      · intro l w'; rw [hSSs, hSSs]
                      · rfl
                      · intro w' hA; obtain ⟨l, hl, hi, hSl⟩ := hA; have hSl := (hSSs _ _).1 hSl; obtain ⟨hz0, hz1⟩ := hSl; go_simp; try with_reducible rfl
                      clear hCl hHeld
                      intro hCl hHeld
                      simp only [List.setIfInBounds_toArray, List.set_cons_zero, List.set_cons_succ] at hCl hHeld
                      try simp only [Act.put]
                      try simp only [List.setIfInBounds_toArray, List.set_cons_zero, List.set_cons_succ]
                      refine reg_takeG 13 ?_ ?_ ?_ (by kernel_rfl) (by kernel_rfl) (by kernel_rfl) (fun _ _ _ h => h) ?_ ?_ ?_ hCl hHeld ?_
                      rotate_left 2
                      · simp only [List.getElem?_toArray, List.getElem?_cons_succ, List.getElem?_cons_zero]; exact rfl
                      · intro l w'; rw [hSSs, hSSs]
                      · rfl
                      · intro w' hA; clear hA; go_simp; try with_reducible rfl
                      clear hCl hHeld
                      intro hCl hHeld
                      simp only [List.setIfInBounds_toArray, List.set_cons_zero, List.set_cons_succ] at hCl hHeld
                      try simp only [Act.put]
                      try simp only [List.setIfInBounds_toArray, List.set_cons_zero, List.set_cons_succ]
                      refine reg_takeG 14 ?_ ?_ ?_ (by kernel_rfl) (by kernel_rfl) (by kernel_rfl) (fun _ _ _ h => h) ?_ ?_ ?_ hCl hHeld ?_
                      rotate_left 2
                      · simp only [List.getElem?_toArray, List.getElem?_cons_succ, List.getElem?_cons_zero]; exact rfl
                      · intro l w'; rw [hSSs, hSSs]
                      · rfl
                      · intro w' hA; clear hA; go_simp; try with_reducible rfl
                      clear hCl hHeld
                      intro hCl hHeld
                      simp only [List.setIfInBounds_toArray, List.set_cons_zero, List.set_cons_succ] at hCl hHeld
                      try simp only [Act.put]
                      try simp only [List.setIfInBounds_toArray, List.set_cons_zero, List.set_cons_succ]
                      refine reg_takeG 15 ?_ ?_ ?_ (by kernel_rfl) (by kernel_rfl) (by kernel_rfl) (fun _ _ _ h => h) ?_ ?_ ?_ hCl hHeld ?_
                      rotate_left 2
                      · simp only [List.getElem?_toArray, List.getElem?_cons_succ, List.getElem?_cons_zero]; exact rfl
                      · intro l w'; rw [hSSs, hSSs]
                      · rfl
                      · intro w' hA; clear hA; go_simp; try with_reducible rfl
                      clear hCl hHeld
                      intro hCl hHeld
                      simp only [List.setIfInBounds_toArray, List.set_cons_zero, List.set_cons_succ] at hCl hHeld
                      try simp only [Act.put]
                      try simp only [List.setIfInBounds_toArray, List.set_cons_zero, List.set_cons_succ]
                      refine reg_takeG 16 ?_ ?_ ?_ (by kernel_rfl) (by kernel_rfl) (by kernel_rfl) (fun _ _ _ h => h) ?_ ?_ ?_ hCl hHeld ?_
                      rotate_left 2
                      · simp only [List.getElem?_toArray, List.getElem?_cons_succ, List.getElem?_cons_zero]; exact rfl
                      · intro l w'; rw [hSSs, hSSs]
                      · rfl
                      · intro w' hA; clear hA; go_simp; try with_reducible rfl
                      clear hCl hHeld
                      intro hCl hHeld
                      simp only [List.setIfInBounds_toArray, List.set_cons_zero, List.set_cons_succ] at hCl hHeld
                      try simp only [Act.put]
                      try simp only [List.setIfInBounds_toArray, List.set_cons_zero, List.set_cons_succ]
                      refine reg_takeG 17 ?_ ?_ ?_ (by kernel_rfl) (by kernel_rfl) (by kernel_rfl) (fun _ _ _ h => h) ?_ ?_ ?_ hCl hHeld ?_
                      rotate_left 2
                      · simp only [List.getElem?_toArray, List.getElem?_cons_succ, List.getElem?_cons_zero]; exact rfl
                      · intro l w'; rw [hSSs, hSSs]
                      · rfl
                      · intro w' hA; obtain ⟨l, hl, hi, hSl⟩ := hA; have hSl := (hSSs _ _).1 hSl; obtain ⟨hz0, hz1⟩ := hSl; go_simp; try with_reducible rfl
                      clear hCl hHeld
                      intro hCl hHeld
                      simp only [List.setIfInBounds_toArray, List.set_cons_zero, List.set_cons_succ] at hCl hHeld
                      try simp only [Act.put]
                      try simp only [List.setIfInBounds_toArray, List.set_cons_zero, List.set_cons_succ]
                      refine reg_takeG 18 ?_ ?_ ?_ (by kernel_rfl) (by kernel_rfl) (by kernel_rfl) (fun _ _ _ h => h) ?_ ?_ ?_ hCl hHeld ?_
                      rotate_left 2
                      · simp only [List.getElem?_toArray, List.getElem?_cons_succ, List.getElem?_cons_zero]; exact rfl
                      · intro l w'; rw [hSSs, hSSs]
                      · rfl
                      · intro w' hA; clear hA; go_simp; try with_reducible rfl
                      clear hCl hHeld
                      intro hCl hHeld
                      simp only [List.setIfInBounds_toArray, List.set_cons_zero, List.set_cons_succ] at hCl hHeld
                      try simp only [Act.put]
                      try simp only [List.setIfInBounds_toArray, List.set_cons_zero, List.set_cons_succ]
                      refine reg_takeG 19 ?_ ?_ ?_ (by kernel_rfl) (by kernel_rfl) (by kernel_rfl) (fun _ _ _ h => h) ?_ ?_ ?_ hCl hHeld ?_
                      rotate_left 2
                      · simp only [List.getElem?_toArray, List.getElem?_cons_succ, List.getElem?_cons_zero]; exact rfl
                      · intro l w'; rw [hSSs, hSSs]
                      · rfl
                      · intro w' hA; clear hA; go_simp; try with_reducible rfl
                      clear hCl hHeld
                      intro hCl hHeld
                      simp only [List.setIfInBounds_toArray, List.set_cons_zero, List.set_cons_succ] at hCl hHeld
                      try simp only [Act.put]
                      try simp only [List.setIfInBounds_toArray, List.set_cons_zero, List.set_cons_succ]
                      clear hCl hHeld
                      refine reg_callG 20 ?_ (by kernel_rfl) ?_ (fun K hK => ?_)
                      rotate_left 1
                      · simp only [List.getElem?_toArray, List.getElem?_cons_succ, List.getElem?_cons_zero]; exact rfl
                      go_simp
                      clear hx0 hx1 hup
                      refine hK.out _ _ ((hSSs _ _).2 ⟨hy0, hy1⟩) ?_
                      clear hK K
                      try simp only [Act.put]
                      try simp only [List.setIfInBounds_toArray, List.set_cons_zero, List.set_cons_succ]
                      refine wpAnyG_done (by kernel_rfl) ?_ _
                      refine NoPanic.normal ?_
                      clear hSSs SSs
                      go_wp2
                      have hnn := HNN.out
                      refine ⟨⟨_, _, _, _, _, _, _, _, _, _, _, _, _, _, _, _, _, _, _, _, _, _, _, _, _, _, _, _, _, _, _, _, _, _, ?_, rfl⟩, by simp [intOf]⟩
                      exact ⟨1 + 1, by omega, by go_num, congrArg (Value.int .i64) (by omega), ⟨_, FIN.out.1⟩, FIN.out.2.1, FIN.out.2.2⟩
                    · obtain ⟨mn, hmn⟩ : ∃ mn : Int, (if (x : Int) < (z : Int) then (x : Int) else (z : Int)) = mn := ⟨_, rfl⟩
                      obtain ⟨mx, hmx⟩ : ∃ mx : Int, (if (x : Int) > (z : Int) then (x : Int) else (z : Int)) = mx := ⟨_, rfl⟩
                      have bmn : -1000000 ≤ mn ∧ mn ≤ 1000000 := by rw [← hmn]; split <;> omega
                      have bmx : -1000000 ≤ mx ∧ mx ≤ 1000000 := by rw [← hmx]; split <;> omega
                      have hmin : ∀ w : World, Sem.run Try.prog (Builtin.min_ #[3, 3] 3 #[.int .i64 (z : Int), .int .i64 (x : Int)]) w = Result.ok (Value.int .i64 mn) w := fun w => by rw [run_min_int2, hmn]
                      have hmax : ∀ w : World, Sem.run Try.prog (Builtin.max_ #[3, 3] 3 #[.int .i64 (z : Int), .int .i64 (x : Int)]) w = Result.ok (Value.int .i64 mx) w := fun w => by rw [run_max_int2, hmx]
                      have hwk : (IntKind.i64.wrap 3).tmod 3 = 0 := by decide
                      obtain ⟨wm, F4, hup, hT4, hF4⟩ := fault_store HF3.out bmn bmx
                      have hx0 := HBX3.out.c 2 _ rfl; have hx1 := HBX3.out.c 0 _ rfl
                      have hbx4 := HBX3.out.turned hT4 (by omega)
                      have hbw4 : Below fb w7 wm := Below.turned HBW3.out hT4 (Nat.le_refl _)
                      have hy0 := hbx4.c 2 _ rfl; have hy1 := hbx4.c 0 _ rfl
                      have FIN := Lib.hid (And.intro hF4 (And.intro hbx4 hbw4))
                      clear hmn hmx bmn bmx hT4 hF4 hbx4 hbw4
                      go_wp2_with fail
                      obtain ⟨SSs, hSSs⟩ : ∃ S : Array Bool → World → Prop, ∀ l w', S l w' ↔ ((w'.cell? ⟨tb, 2, none⟩ = some (.int .i64 (z : Int))) ∧ (w'.cell? ⟨tb, 0, none⟩ = some (.int .i64 (x : Int)))) := ⟨_, fun _ _ => Iff.rfl⟩
                      refine wp_region_noPanic ?_
                      refine wp_region_G SSs 21 #[false, false, false, false, false, false, false, false, false, false, false, false, false, false, false, false, false, false, false, false, false] (by kernel_rfl) (by kernel_rfl) (by kernel_rfl) ((hSSs _ _).2 ⟨hx0, hx1⟩) (fun hCl hHeld => ?_)
                      generalize wr.drew = wd at *
                      refine reg_takeG 0 ?_ ?_ ?_ (by kernel_rfl) (by kernel_rfl) (by kernel_rfl) (fun _ _ _ h => h) ?_ ?_ ?_ hCl hHeld ?_
                      rotate_left 2
                      · simp only [List.getElem?_toArray, List.getElem?_cons_zero]; exact rfl
                      · intro l w'; rw [hSSs, hSSs]
                      · rfl
                      · intro w' hA; clear hA; go_simp; try with_reducible rfl
                      clear hCl hHeld
                      intro hCl hHeld
                      simp only [List.setIfInBounds_toArray, List.set_cons_zero] at hCl hHeld
                      try simp only [Act.put]
                      try simp only [List.setIfInBounds_toArray, List.set_cons_zero, List.set_cons_succ]
                      refine reg_takeG 1 ?_ ?_ ?_ (by kernel_rfl) (by kernel_rfl) (by kernel_rfl) (fun _ _ _ h => h) ?_ ?_ ?_ hCl hHeld ?_
                      rotate_left 2
                      · simp only [List.getElem?_toArray, List.getElem?_cons_succ, List.getElem?_cons_zero]; exact rfl
                      · intro l w'; rw [hSSs, hSSs]
                      · rfl
                      · intro w' hA; clear hA; go_simp; try with_reducible rfl
                      clear hCl hHeld
                      intro hCl hHeld
                      simp only [List.setIfInBounds_toArray, List.set_cons_zero, List.set_cons_succ] at hCl hHeld
                      try simp only [Act.put]
                      try simp only [List.setIfInBounds_toArray, List.set_cons_zero, List.set_cons_succ]
                      refine reg_takeG 2 ?_ ?_ ?_ (by kernel_rfl) (by kernel_rfl) (by kernel_rfl) (fun _ _ _ h => h) ?_ ?_ ?_ hCl hHeld ?_
                      rotate_left 2
                      · simp only [List.getElem?_toArray, List.getElem?_cons_succ, List.getElem?_cons_zero]; exact rfl
                      · intro l w'; rw [hSSs, hSSs]
                      · rfl
                      · intro w' hA; clear hA; go_simp; try with_reducible rfl
                      clear hCl hHeld
                      intro hCl hHeld
                      simp only [List.setIfInBounds_toArray, List.set_cons_zero, List.set_cons_succ] at hCl hHeld
                      try simp only [Act.put]
                      try simp only [List.setIfInBounds_toArray, List.set_cons_zero, List.set_cons_succ]
                      refine reg_takeG 3 ?_ ?_ ?_ (by kernel_rfl) (by kernel_rfl) (by kernel_rfl) (fun _ _ _ h => h) ?_ ?_ ?_ hCl hHeld ?_
                      rotate_left 2
                      · simp only [List.getElem?_toArray, List.getElem?_cons_succ, List.getElem?_cons_zero]; exact rfl
                      · intro l w'; rw [hSSs, hSSs]
                      · rfl
                      · intro w' hA; obtain ⟨l, hl, hi, hSl⟩ := hA; have hSl := (hSSs _ _).1 hSl; obtain ⟨hz0, hz1⟩ := hSl; go_simp; try with_reducible rfl
                      clear hCl hHeld
                      intro hCl hHeld
                      simp only [List.setIfInBounds_toArray, List.set_cons_zero, List.set_cons_succ] at hCl hHeld
                      try simp only [Act.put]
                      try simp only [List.setIfInBounds_toArray, List.set_cons_zero, List.set_cons_succ]
                      refine reg_takeG 4 ?_ ?_ ?_ (by kernel_rfl) (by kernel_rfl) (by kernel_rfl) (fun _ _ _ h => h) ?_ ?_ ?_ hCl hHeld ?_
                      rotate_left 2
                      · simp only [List.getElem?_toArray, List.getElem?_cons_succ, List.getElem?_cons_zero]; exact rfl
                      · intro l w'; rw [hSSs, hSSs]
                      · rfl
                      · intro w' hA; clear hA; go_simp; try with_reducible rfl
                      clear hCl hHeld
                      intro hCl hHeld
                      simp only [List.setIfInBounds_toArray, List.set_cons_zero, List.set_cons_succ] at hCl hHeld
                      try simp only [Act.put]
                      try simp only [List.setIfInBounds_toArray, List.set_cons_zero, List.set_cons_succ]
                      refine reg_takeG 5 ?_ ?_ ?_ (by kernel_rfl) (by kernel_rfl) (by kernel_rfl) (fun _ _ _ h => h) ?_ ?_ ?_ hCl hHeld ?_
                      rotate_left 2
                      · simp only [List.getElem?_toArray, List.getElem?_cons_succ, List.getElem?_cons_zero]; exact rfl
                      · intro l w'; rw [hSSs, hSSs]
                      · rfl
                      · intro w' hA; clear hA; go_simp; try with_reducible rfl
                      clear hCl hHeld
                      intro hCl hHeld
                      simp only [List.setIfInBounds_toArray, List.set_cons_zero, List.set_cons_succ] at hCl hHeld
                      try simp only [Act.put]
                      try simp only [List.setIfInBounds_toArray, List.set_cons_zero, List.set_cons_succ]
                      refine reg_takeG 6 ?_ ?_ ?_ (by kernel_rfl) (by kernel_rfl) (by kernel_rfl) (fun _ _ _ h => h) ?_ ?_ ?_ hCl hHeld ?_
                      rotate_left 2
                      · simp only [List.getElem?_toArray, List.getElem?_cons_succ, List.getElem?_cons_zero]; exact rfl
                      · intro l w'; rw [hSSs, hSSs]
                      · rfl
                      · intro w' hA; clear hA; go_simp; try with_reducible rfl
                      clear hCl hHeld
                      intro hCl hHeld
                      simp only [List.setIfInBounds_toArray, List.set_cons_zero, List.set_cons_succ] at hCl hHeld
                      try simp only [Act.put]
                      try simp only [List.setIfInBounds_toArray, List.set_cons_zero, List.set_cons_succ]
                      refine reg_takeG 7 ?_ ?_ ?_ (by kernel_rfl) (by kernel_rfl) (by kernel_rfl) (fun _ _ _ h => h) ?_ ?_ ?_ hCl hHeld ?_
                      rotate_left 2
                      · simp only [List.getElem?_toArray, List.getElem?_cons_succ, List.getElem?_cons_zero]; exact rfl
                      · intro l w'; rw [hSSs, hSSs]
                      · rfl
                      · intro w' hA; clear hA; go_simp; try with_reducible rfl
                      clear hCl hHeld
                      intro hCl hHeld
                      simp only [List.setIfInBounds_toArray, List.set_cons_zero, List.set_cons_succ] at hCl hHeld
                      try simp only [Act.put]
                      try simp only [List.setIfInBounds_toArray, List.set_cons_zero, List.set_cons_succ]
                      refine reg_takeG 8 ?_ ?_ ?_ (by kernel_rfl) (by kernel_rfl) (by kernel_rfl) (fun _ _ _ h => h) ?_ ?_ ?_ hCl hHeld ?_
                      rotate_left 2
                      · simp only [List.getElem?_toArray, List.getElem?_cons_succ, List.getElem?_cons_zero]; exact rfl
                      · intro l w'; rw [hSSs, hSSs]
                      · rfl
                      · intro w' hA; obtain ⟨l, hl, hi, hSl⟩ := hA; have hSl := (hSSs _ _).1 hSl; obtain ⟨hz0, hz1⟩ := hSl; go_simp; try with_reducible rfl
                      clear hCl hHeld
                      intro hCl hHeld
                      simp only [List.setIfInBounds_toArray, List.set_cons_zero, List.set_cons_succ] at hCl hHeld
                      try simp only [Act.put]
                      try simp only [List.setIfInBounds_toArray, List.set_cons_zero, List.set_cons_succ]
                      refine reg_takeG 9 ?_ ?_ ?_ (by kernel_rfl) (by kernel_rfl) (by kernel_rfl) (fun _ _ _ h => h) ?_ ?_ ?_ hCl hHeld ?_
                      rotate_left 2
                      · simp only [List.getElem?_toArray, List.getElem?_cons_succ, List.getElem?_cons_zero]; exact rfl
                      · intro l w'; rw [hSSs, hSSs]
                      · rfl
                      · intro w' hA; clear hA; go_simp; try with_reducible rfl
                      clear hCl hHeld
                      intro hCl hHeld
                      simp only [List.setIfInBounds_toArray, List.set_cons_zero, List.set_cons_succ] at hCl hHeld
                      try simp only [Act.put]
                      try simp only [List.setIfInBounds_toArray, List.set_cons_zero, List.set_cons_succ]
                      refine reg_takeG 10 ?_ ?_ ?_ (by kernel_rfl) (by kernel_rfl) (by kernel_rfl) (fun _ _ _ h => h) ?_ ?_ ?_ hCl hHeld ?_
                      rotate_left 2
                      · simp only [List.getElem?_toArray, List.getElem?_cons_succ, List.getElem?_cons_zero]; exact rfl
                      · intro l w'; rw [hSSs, hSSs]
                      · rfl
                      · intro w' hA; clear hA; go_simp; try with_reducible rfl
                      clear hCl hHeld
                      intro hCl hHeld
                      simp only [List.setIfInBounds_toArray, List.set_cons_zero, List.set_cons_succ] at hCl hHeld
                      try simp only [Act.put]
                      try simp only [List.setIfInBounds_toArray, List.set_cons_zero, List.set_cons_succ]
                      refine reg_takeG 11 ?_ ?_ ?_ (by kernel_rfl) (by kernel_rfl) (by kernel_rfl) (fun _ _ _ h => h) ?_ ?_ ?_ hCl hHeld ?_
                      rotate_left 2
                      · simp only [List.getElem?_toArray, List.getElem?_cons_succ, List.getElem?_cons_zero]; exact rfl
                      · intro l w'; rw [hSSs, hSSs]
                      · rfl
                      · intro w' hA; clear hA; go_simp; try with_reducible rfl
                      clear hCl hHeld
                      intro hCl hHeld
                      simp only [List.setIfInBounds_toArray, List.set_cons_zero, List.set_cons_succ] at hCl hHeld
                      try simp only [Act.put]
                      try simp only [List.setIfInBounds_toArray, List.set_cons_zero, List.set_cons_succ]
                      refine reg_takeG 12 ?_ ?_ ?_ (by kernel_rfl) (by kernel_rfl) (by kernel_rfl) (fun _ _ _ h => h) ?_ ?_ ?_ hCl hHeld ?_
                      rotate_left 2
                      · simp only [List.getElem?_toArray, List.getElem?_cons_succ, List.getElem?_cons_zero]; exact rfl
                      · intro l w'; rw [hSSs, hSSs]
                      · rfl
                      · intro w' hA; obtain ⟨l, hl, hi, hSl⟩ := hA; have hSl := (hSSs _ _).1 hSl; obtain ⟨hz0, hz1⟩ := hSl; go_simp; try with_reducible rfl
                      clear hCl hHeld
                      intro hCl hHeld
                      simp only [List.setIfInBounds_toArray, List.set_cons_zero, List.set_cons_succ] at hCl hHeld
                      try simp only [Act.put]
                      try simp only [List.setIfInBounds_toArray, List.set_cons_zero, List.set_cons_succ]
                      refine reg_takeG 13 ?_ ?_ ?_ (by kernel_rfl) (by kernel_rfl) (by kernel_rfl) (fun _ _ _ h => h) ?_ ?_ ?_ hCl hHeld ?_
                      rotate_left 2
                      · simp only [List.getElem?_toArray, List.getElem?_cons_succ, List.getElem?_cons_zero]; exact rfl
                      · intro l w'; rw [hSSs, hSSs]
                      · rfl
                      · intro w' hA; clear hA; go_simp; try with_reducible rfl
                      clear hCl hHeld
                      intro hCl hHeld
                      simp only [List.setIfInBounds_toArray, List.set_cons_zero, List.set_cons_succ] at hCl hHeld
                      try simp only [Act.put]
                      try simp only [List.setIfInBounds_toArray, List.set_cons_zero, List.set_cons_succ]
                      refine reg_takeG 14 ?_ ?_ ?_ (by kernel_rfl) (by kernel_rfl) (by kernel_rfl) (fun _ _ _ h => h) ?_ ?_ ?_ hCl hHeld ?_
                      rotate_left 2
                      · simp only [List.getElem?_toArray, List.getElem?_cons_succ, List.getElem?_cons_zero]; exact rfl
                      · intro l w'; rw [hSSs, hSSs]
                      · rfl
                      · intro w' hA; clear hA; go_simp; try with_reducible rfl
                      clear hCl hHeld
                      intro hCl hHeld
                      simp only [List.setIfInBounds_toArray, List.set_cons_zero, List.set_cons_succ] at hCl hHeld
                      try simp only [Act.put]
                      try simp only [List.setIfInBounds_toArray, List.set_cons_zero, List.set_cons_succ]
                      refine reg_takeG 15 ?_ ?_ ?_ (by kernel_rfl) (by kernel_rfl) (by kernel_rfl) (fun _ _ _ h => h) ?_ ?_ ?_ hCl hHeld ?_
                      rotate_left 2
                      · simp only [List.getElem?_toArray, List.getElem?_cons_succ, List.getElem?_cons_zero]; exact rfl
                      · intro l w'; rw [hSSs, hSSs]
                      · rfl
                      · intro w' hA; clear hA; go_simp; try with_reducible rfl
                      clear hCl hHeld
                      intro hCl hHeld
                      simp only [List.setIfInBounds_toArray, List.set_cons_zero, List.set_cons_succ] at hCl hHeld
                      try simp only [Act.put]
                      try simp only [List.setIfInBounds_toArray, List.set_cons_zero, List.set_cons_succ]
                      refine reg_takeG 16 ?_ ?_ ?_ (by kernel_rfl) (by kernel_rfl) (by kernel_rfl) (fun _ _ _ h => h) ?_ ?_ ?_ hCl hHeld ?_
                      rotate_left 2
                      · simp only [List.getElem?_toArray, List.getElem?_cons_succ, List.getElem?_cons_zero]; exact rfl
                      · intro l w'; rw [hSSs, hSSs]
                      · rfl
                      · intro w' hA; clear hA; go_simp; try with_reducible rfl
                      clear hCl hHeld
                      intro hCl hHeld
                      simp only [List.setIfInBounds_toArray, List.set_cons_zero, List.set_cons_succ] at hCl hHeld
                      try simp only [Act.put]
                      try simp only [List.setIfInBounds_toArray, List.set_cons_zero, List.set_cons_succ]
                      refine reg_takeG 17 ?_ ?_ ?_ (by kernel_rfl) (by kernel_rfl) (by kernel_rfl) (fun _ _ _ h => h) ?_ ?_ ?_ hCl hHeld ?_
                      rotate_left 2
                      · simp only [List.getElem?_toArray, List.getElem?_cons_succ, List.getElem?_cons_zero]; exact rfl
                      · intro l w'; rw [hSSs, hSSs]
                      · rfl
                      · intro w' hA; obtain ⟨l, hl, hi, hSl⟩ := hA; have hSl := (hSSs _ _).1 hSl; obtain ⟨hz0, hz1⟩ := hSl; go_simp; try with_reducible rfl
                      clear hCl hHeld
                      intro hCl hHeld
                      simp only [List.setIfInBounds_toArray, List.set_cons_zero, List.set_cons_succ] at hCl hHeld
                      try simp only [Act.put]
                      try simp only [List.setIfInBounds_toArray, List.set_cons_zero, List.set_cons_succ]
                      refine reg_takeG 18 ?_ ?_ ?_ (by kernel_rfl) (by kernel_rfl) (by kernel_rfl) (fun _ _ _ h => h) ?_ ?_ ?_ hCl hHeld ?_
                      rotate_left 2
                      · simp only [List.getElem?_toArray, List.getElem?_cons_succ, List.getElem?_cons_zero]; exact rfl
                      · intro l w'; rw [hSSs, hSSs]
                      · rfl
                      · intro w' hA; clear hA; go_simp; try with_reducible rfl
                      clear hCl hHeld
                      intro hCl hHeld
                      simp only [List.setIfInBounds_toArray, List.set_cons_zero, List.set_cons_succ] at hCl hHeld
                      try simp only [Act.put]
                      try simp only [List.setIfInBounds_toArray, List.set_cons_zero, List.set_cons_succ]
                      refine reg_takeG 19 ?_ ?_ ?_ (by kernel_rfl) (by kernel_rfl) (by kernel_rfl) (fun _ _ _ h => h) ?_ ?_ ?_ hCl hHeld ?_
                      rotate_left 2
                      · simp only [List.getElem?_toArray, List.getElem?_cons_succ, List.getElem?_cons_zero]; exact rfl
                      · intro l w'; rw [hSSs, hSSs]
                      · rfl
                      · intro w' hA; clear hA; go_simp; try with_reducible rfl
                      clear hCl hHeld
                      intro hCl hHeld
                      simp only [List.setIfInBounds_toArray, List.set_cons_zero, List.set_cons_succ] at hCl hHeld
                      try simp only [Act.put]
                      try simp only [List.setIfInBounds_toArray, List.set_cons_zero, List.set_cons_succ]
                      clear hCl hHeld
                      refine reg_callG 20 ?_ (by kernel_rfl) ?_ (fun K hK => ?_)
                      rotate_left 1
                      · simp only [List.getElem?_toArray, List.getElem?_cons_succ, List.getElem?_cons_zero]; exact rfl
                      go_simp
                      clear hx0 hx1 hup
                      refine hK.out _ _ ((hSSs _ _).2 ⟨hy0, hy1⟩) ?_
                      clear hK K
                      try simp only [Act.put]
                      try simp only [List.setIfInBounds_toArray, List.set_cons_zero, List.set_cons_succ]
                      refine wpAnyG_done (by kernel_rfl) ?_ _
                      refine NoPanic.normal ?_
                      clear hSSs SSs
                      go_wp2
                      have hnn := HNN.out
                      refine ⟨⟨_, _, _, _, _, _, _, _, _, _, _, _, _, _, _, _, _, _, _, _, _, _, _, _, _, _, _, _, _, _, _, _, _, _, ?_, rfl⟩, by simp [intOf]⟩
                      exact ⟨2 + 1, by omega, by go_num, congrArg (Value.int .i64) (by omega), ⟨_, FIN.out.1⟩, FIN.out.2.1, FIN.out.2.2⟩
                · obtain rfl : i = 3 := by omega
                  have FIN := Lib.hid (And.intro hF2 hbw)
                  clear hF2 hbw hbx
                  go_wp2
                  exact ⟨⟨j + 1, by omega, by go_num, congrArg (Value.int .i64) (by omega), ⟨_, FIN.out.1⟩, FIN.out.2⟩, by simp [intOf]; omega⟩
            · obtain rfl : j = 4 := by omega
              have hgl := HM.out.len
              obtain ⟨⟨ta, tb, tc⟩, h0⟩ : ∃ v, (gridT 1 2 bn)[0]? = some v := ⟨_, List.getElem?_eq_getElem (by omega)⟩
              have hz := HM.out.one _ (List.mem_of_getElem? h0)
              simp only [] at hz
              have hb7 : Below w7.heap.size w7 wr := by rw [HFB.out]; exact hbw
              have hpr : RowN wr (w.heap.size + 1) 26 2 (.slice (some ⟨gp, 0, none⟩) 6 gpc) 6 (ptsCells (gridP 1 2)) := (HROW.out.below HBT.out).below hb7
              have htr := HTR.out.below hb7
              have hbu := Build_any F (gridT 1 2 bn) ta tb tc fb gt 4 gtc gp 6 gpc (gridP 1 2) wr OK.out.good h0 hz (by omega) (by omega) OK.out.pts htr hF rfl (by omega) (by omega) HPS.out hpr.ptsC HM.out.some_ (by have := HM.out.few; omega) HM.out.ends
              have HBU := Lib.hid hbu; have HTRR := Lib.hid htr
              have HBWR := Lib.hid (HBW.out.trans ((HBT.out.trans (hb7.mono HBT.out.size)).mono HBW.out.size))
              have hgt := HGTL.out.1; have hsz5 := HBW.out.size
              clear hbu htr hpr hb7 hF hbw hz h0 hgl
              go_wp2_with fail
              refine HBU.out.mono ?_
              rintro e w9 ⟨mb, rfl, hbe, hb9⟩
              have hbs := HBWR.out.size
              have FIN := Lib.hid (And.intro (hbe.low hbs) (And.intro (HTRR.out.below hb9) (HBWR.out.trans (hb9.mono hbs))))
              clear hbe hb9
              go_wp2
              go_ret2
              exact ⟨mb, gt, gtc, F, rfl, FIN.out.1, FIN.out.2.1, by omega, FIN.out.2.2⟩
end Go.Proofs.Ytaedaknkpfeipaa
/- The statements' Grid, 2 by 1. -/
namespace Go.Proofs.Ytaedaknkpfeipaa
open Go.RowKit Go.MagM
set_option maxRecDepth 100000 in
set_option maxHeartbeats 16000000 in
theorem Grid21_any (w0 h0 b f : Int) (bn : Nat) (hbn : bn < 16) (e1 : bits .and .i64 w0 1 = 1) (e2 : bits .and .i64 h0 1 = 0) (hbit : ∀ k : Nat, k < 4 → bitB b k = bn.testBit k) (w : World) :
    Calls Try.prog 20 #[.int .i64 w0, .int .i64 h0, .int .u32 b, .int .u32 f] w fun e w' => ∃ (mb g c : Nat) (F : Int → Int → Bool), e = .returned (.tuple #[.pointer (some ⟨mb, 0, none⟩), .slice (some ⟨g, 0, none⟩) 4 c]) ∧ BuildEnd 26 37 F w.heap.size (gridP 2 1) (gridT 2 1 bn) mb w' ∧ TrIn w' g ((gridT 2 1 bn).map realV) ∧ w.heap.size ≤ g ∧ Below w.heap.size w w' := by
  have ok := grid_ok (w := 2) (h := 1) (by omega) (by omega) hbn
  have hm := grid_has (w := 2) (h := 1) (by omega) (by omega) hbn
  have hps : InPs (gridP 2 1) := grid_inPs (by omega) (by omega)
  have OK := Lib.hid ok; have HM := Lib.hid hm; have HPS := Lib.hid hps; have HBIT := Lib.hid hbit
  clear ok hm hps hbit
  obtain ⟨i0, hi, hz0, hz1, hz2⟩ := info_parts infoPt
  have HI := Lib.hid hi; have HZ0 := Lib.hid hz0; have HZ1 := Lib.hid hz1; have HZ2 := Lib.hid hz2
  obtain ⟨j0, hj, hy0, hy1, hy2⟩ := info_parts infoE3
  have HJ := Lib.hid hj; have HY0 := Lib.hid hy0; have HY1 := Lib.hid hy1; have HY2 := Lib.hid hy2
  clear hi hz0 hz1 hz2 hj hy0 hy1 hy2
  obtain ⟨w1, hw1, pw0, hB1, hs1⟩ := new_box w _ rfl [.int .i64 w0] 3
  have sc := pw0.c 0 _ rfl; have sf := pw0.f 0 _ rfl
  obtain ⟨w2, hw2⟩ : ∃ w2, w1.setCell ⟨w.heap.size, 0, none⟩ (.int .i64 2) = w2 := ⟨_, rfl⟩
  have pw2 : Box w2 w.heap.size [.int .i64 2] := by rw [← hw2]; exact pw0.set 0 (.int .i64 2)
  have hB2 : Below w.heap.size w w2 := by rw [← hw2]; exact hB1.setCell (p := ⟨w.heap.size, 0, none⟩) (by simp only []; omega) _
  have hz2 : w.heap.size + 1 ≤ w2.heap.size := by have := pw2.lt; omega
  have PW2 := Lib.hid pw2; have HB2 := Lib.hid hB2; have HZS := Lib.hid hz2
  clear pw0 hB1 hs1 pw2 hB2 hz2
  go_enter Try.func20, Try.ntmps20
  go_wp2
  clear sc sf hw1 hw2
  go_loopw [10, 11, 12, 35] (fun pv _ _ iv wr => ∃ (y : Nat) (vv : Value), y ≤ 2 ∧ iv = .int .i64 (y : Int) ∧ vv = pv ∧ RowN wr (w.heap.size + 1) 26 2 vv (y * 3) (ptsCells ((gridP 2 1).take (y * 3))) ∧ Box wr w.heap.size [.int .i64 2] ∧ Below w.heap.size w wr ∧ w.heap.size + 1 ≤ wr.heap.size) (fun _ _ _ iv _ => 2 - (intOf iv).toNat)
  case atStart => exact ⟨0, _, Nat.zero_le _, rfl, rfl, RowN.nil _ _ _ _, PW2.out, HB2.out, HZS.out⟩
  case round =>
    obtain ⟨y, vv, hy, rfl, rfl, hrow, hbx, hbw, hsz⟩ := hrel
    by_cases hlt : y < 2
    · have hyd : decide ((y : Int) < 2) = true := decide_eq_true (by omega)
      have cw := hbx.c 0 _ rfl
      have HROW := Lib.hid hrow; have HBX := Lib.hid hbx; have HBW := Lib.hid hbw; have HSZ := Lib.hid hsz
      clear hrow hbx hbw hsz
      go_wp2
      clear cw
      go_loopw [10, 12, 40] (fun pv _ iv wr => ∃ (x : Nat) (vv : Value), x ≤ 3 ∧ iv = .int .i64 (x : Int) ∧ vv = pv ∧ RowN wr (w.heap.size + 1) 26 2 vv (y * 3 + x) (ptsCells ((gridP 2 1).take (y * 3 + x))) ∧ Box wr w.heap.size [.int .i64 2] ∧ Below w.heap.size w wr ∧ w.heap.size + 1 ≤ wr.heap.size) (fun _ _ iv _ => 3 - (intOf iv).toNat)
      case atStart => exact ⟨0, _, Nat.zero_le _, rfl, rfl, HROW.out, HBX.out, HBW.out, HSZ.out⟩
      case round =>
        obtain ⟨x, vv, hx, rfl, rfl, hrow, hbx, hbw, hsz⟩ := hrel
        by_cases hlx : x < 3
        · have hel := gridP_at (w := 2) (h := 1) (by omega) (by omega) (x := x) (y := y) (by omega) (by omega)
          have hx2 : IntKind.i64.wrap (2 * (x : Int)) = 2 * (x : Int) := by rw [IntKind.wrap_i64]; omega
          have hy2 : IntKind.i64.wrap (2 * (y : Int)) = 2 * (y : Int) := by rw [IntKind.wrap_i64]; omega
          obtain ⟨w3, hw3, hpn, hb3, hs3⟩ := new_box wr _ rfl [.int .i64 (2 * (x : Int)), .int .i64 (2 * (y : Int))] 26
          have hrow3 := hrow.below hb3
          have hbx3 := hbx.below hb3
          have hbw3 := hbw.trans (hb3.mono hbw.size)
          obtain ⟨v1, w4, hrun, rown, hgrow, hkept⟩ := run_append_row (P := Try.prog) w3 (w.heap.size + 1) 22 22 26 i0 (.agg #[.int .i64 0, .int .i64 0]) 2 16 (by kernel_rfl) HI.out HZ0.out HZ1.out HZ2.out rfl (noWordI2 _ _) _ (y * 3 + x) _ hrow3 ⟨wr.heap.size, 0, none⟩ 1 1 [.int .i64 (2 * (x : Int)), .int .i64 (2 * (y : Int))] (by omega) rfl hpn.news (by intro u hu; simp at hu; rcases hu with rfl | rfl <;> rfl) (noWordI2 _ _) (by unfold maxLen; omega) (by omega) (by omega)
          have hne : ∀ k, vv.ownBlock = some k → w.heap.size + 1 ≤ k := fun k hk => (hrow3.lt k hk).1
          have hbx4 := hbx3.grown hgrow (fun e => by have := hne _ e; omega) hbx3.lt
          have hbw4 : Below w.heap.size w w4 := hbw3.grown hgrow (by omega) (fun k hk => by have := hne k hk; omega)
          have htk : ptsCells ((gridP 2 1).take (y * 3 + x)) ++ [.int .i64 (2 * (x : Int)), .int .i64 (2 * (y : Int))] = ptsCells ((gridP 2 1).take (y * 3 + (x + 1))) := by
            rw [← Nat.add_assoc, List.take_add_one, hel, ptsCells_app]; rfl
          rw [htk] at rown
          have FIN := Lib.hid (And.intro rown (And.intro hbx4 (And.intro hbw4 (show w.heap.size + 1 ≤ w4.heap.size by have := hgrow.size; omega))))
          clear hrow hbx hbw hsz hpn hb3 hs3 hrow3 hbx3 hbw3 rown hgrow hkept hne hbx4 hbw4 htk hel
          go_wp2_with (refine wpList_append_row rfl _ _ 22 rfl rfl rfl hrun ?_)
          have FI := FIN.out
          exact ⟨⟨x + 1, _, by omega, by go_num, rfl, FI.1, FI.2.1, FI.2.2.1, FI.2.2.2⟩, by simp [intOf]; omega⟩
        · obtain rfl : x = 3 := by omega
          have FIN := Lib.hid (And.intro hrow (And.intro hbx (And.intro hbw hsz)))
          clear hrow hbx hbw hsz
          go_wp2
          have FI := FIN.out
          have hrow := FI.1
          rw [show y * 3 + 3 = (y + 1) * 3 by omega] at hrow
          exact ⟨⟨y + 1, _, by omega, by go_num, rfl, hrow, FI.2.1, FI.2.2.1, FI.2.2.2⟩, by simp [intOf]; omega⟩
    · obtain rfl : y = 2 := by omega
      have hpt : (gridP 2 1).take (2 * 3) = gridP 2 1 := rfl
      rw [hpt] at hrow
      obtain ⟨gp, gpc, hvv⟩ : ∃ g c, vv = .slice (some ⟨g, 0, none⟩) 6 c := by
        rcases hrow.2 with ⟨h1, h2⟩ | ⟨g, cap, cur, h1, h2, h3⟩
        · omega
        · exact ⟨g, cap, h1⟩
      subst hvv
      have hpl := hrow.lt gp rfl
      obtain ⟨w5, hw5⟩ : ∃ w5, w5 = wr := ⟨_, rfl⟩
      rw [← hw5] at hrow hbx hbw hsz hpl
      rw [← hw5]
      have HROW := Lib.hid hrow; have HBX := Lib.hid hbx; have HBW := Lib.hid hbw; have HSZ := Lib.hid hsz; have HPL := Lib.hid hpl
      clear hrow hbx hbw hsz hpl hw5
      go_wp2
      go_loopw [13, 15, 16, 17, 18, 19, 20, 21, 55] (fun tv kv _ _ _ _ _ _ iv wr => ∃ (y : Nat) (vv : Value), y ≤ 1 ∧ iv = .int .i64 (y : Int) ∧ kv = .int .i64 ((y * 2 : Nat) : Int) ∧ vv = tv ∧ RowN wr w5.heap.size 23 3 vv (2 * (y * 2)) (tr3Cells ((gridT 2 1 bn).take (2 * (y * 2)))) ∧ Below w5.heap.size w5 wr) (fun _ _ _ _ _ _ _ _ iv _ => 1 - (intOf iv).toNat)
      case atStart => exact ⟨0, _, Nat.zero_le _, rfl, rfl, rfl, RowN.nil _ _ _ _, Below.refl _ _⟩
      case round =>
        obtain ⟨y, vv, hy, rfl, rfl, rfl, hrow, hbw⟩ := hrel
        by_cases hlt : y < 1
        · have hyd : decide ((y : Int) < 1) = true := decide_eq_true (by omega)
          have cw := (HBX.out.below hbw).c 0 _ rfl
          have HRW := Lib.hid hrow; have HBZ := Lib.hid hbw
          clear hrow hbw
          go_wp2
          clear cw
          go_loopw [13, 15, 17, 18, 19, 20, 21, 59] (fun tv kv _ _ _ _ _ iv wr => ∃ (x : Nat) (vv : Value), x ≤ 2 ∧ iv = .int .i64 (x : Int) ∧ kv = .int .i64 ((y * 2 + x : Nat) : Int) ∧ vv = tv ∧ RowN wr w5.heap.size 23 3 vv (2 * (y * 2 + x)) (tr3Cells ((gridT 2 1 bn).take (2 * (y * 2 + x)))) ∧ Below w5.heap.size w5 wr) (fun _ _ _ _ _ _ _ iv _ => 2 - (intOf iv).toNat)
          case atStart => exact ⟨0, _, Nat.zero_le _, rfl, by rw [Nat.add_zero], rfl, HRW.out, HBZ.out⟩
          case round =>
            obtain ⟨x, vv, hx, rfl, rfl, rfl, hrow, hbw⟩ := hrel
            by_cases hlx : x < 2
            · have cw := (HBX.out.below hbw).c 0 _ rfl
              have hev := HM.out.even y x hlt hlx
              have hod := HM.out.odd y x hlt hlx
              have hbt := HBIT.out (y * 2 + x) (by omega)
              obtain ⟨q, hq⟩ : ∃ q, bn.testBit (y * 2 + x) = q := ⟨_, rfl⟩
              rw [hq] at hev hod hbt
              have a0 := gridNo_any w.heap.size 2 x y wr (by omega) (by omega) (by omega) cw ((y : Int) * 3 + (x : Int)) (by omega)
              have a1 := gridNo_any w.heap.size 2 (x + 1) y wr (by omega) (by omega) (by omega) cw ((y : Int) * 3 + ((x : Int) + 1)) (by omega)
              have a2 := gridNo_any w.heap.size 2 (x + 1) (y + 1) wr (by omega) (by omega) (by omega) cw (((y : Int) + 1) * 3 + ((x : Int) + 1)) (by omega)
              have a3 := gridNo_any w.heap.size 2 x (y + 1) wr (by omega) (by omega) (by omega) cw (((y : Int) + 1) * 3 + (x : Int)) (by omega)
              rw [show (((x + 1 : Nat)) : Int) = (x : Int) + 1 by omega] at a1 a2
              rw [show (((y + 1 : Nat)) : Int) = (y : Int) + 1 by omega] at a2 a3
              obtain ⟨ca, hca⟩ : ∃ c : Int, (y : Int) * 3 + (x : Int) = c := ⟨_, rfl⟩
              obtain ⟨cb, hcb⟩ : ∃ c : Int, (y : Int) * 3 + ((x : Int) + 1) = c := ⟨_, rfl⟩
              obtain ⟨cc, hcc⟩ : ∃ c : Int, ((y : Int) + 1) * 3 + ((x : Int) + 1) = c := ⟨_, rfl⟩
              obtain ⟨cd, hcd⟩ : ∃ c : Int, ((y : Int) + 1) * 3 + (x : Int) = c := ⟨_, rfl⟩
              rw [hca] at a0; rw [hcb] at a1; rw [hcc] at a2; rw [hcd] at a3
              have C0 := Lib.hid a0; have C1 := Lib.hid a1; have C2 := Lib.hid a2; have C3 := Lib.hid a3
              have HEV := Lib.hid hev; have HOD := Lib.hid hod; have HBT := Lib.hid hbt; have HRW2 := Lib.hid hrow; have HBZ2 := Lib.hid hbw
              have HCA := Lib.hid hca; have HCB := Lib.hid hcb; have HCC := Lib.hid hcc; have HCD := Lib.hid hcd
              obtain ⟨kk, hkk⟩ : ∃ kk : Nat, y * 2 + x = kk := ⟨_, rfl⟩
              have hkk4 : kk < 4 := by omega
              rw [hkk] at hbt
              unfold bitB at hbt
              have na : (((y * 3 + x : Nat)) : Int) = ca := by omega
              have nb : (((y * 3 + (x + 1) : Nat)) : Int) = cb := by omega
              have nc : ((((y + 1) * 3 + (x + 1) : Nat)) : Int) = cc := by omega
              have nd : ((((y + 1) * 3 + x : Nat)) : Int) = cd := by omega
              have HKK := Lib.hid hkk
              rw [hkk]
              have HNA := Lib.hid (And.intro na (And.intro nb (And.intro nc nd)))
              clear a0 a1 a2 a3 hev hod hrow hbw hca hcb hcc hcd cw hkk na nb nc nd hq
              cases q
              · have hev' : (gridT 2 1 bn)[2 * (y * 2 + x)]? = some (y * 3 + (x + 1), (y + 1) * 3 + x, y * 3 + x) := HEV.out
                have hod' : (gridT 2 1 bn)[2 * (y * 2 + x) + 1]? = some ((y + 1) * 3 + x, y * 3 + (x + 1), (y + 1) * 3 + (x + 1)) := HOD.out
                have HEV' := Lib.hid hev'; have HOD' := Lib.hid hod'
                clear hev' hod'
                go_wp2_with fail
                refine C0.out.mono ?_
                rintro e w6 ⟨rfl, rfl⟩
                go_wp2_with fail
                refine C1.out.mono ?_
                rintro e w6 ⟨rfl, rfl⟩
                go_wp2_with fail
                refine C2.out.mono ?_
                rintro e w6 ⟨rfl, rfl⟩
                go_wp2_with fail
                refine C3.out.mono ?_
                rintro e w6 ⟨rfl, rfl⟩
                obtain ⟨w6, hw6, hpn, hb6, hs6⟩ := new_box wr _ rfl [.int .i64 cb, .int .i64 cd, .int .i64 ca, .int .i64 cd, .int .i64 cb, .int .i64 cc] 23
                have hrow6 := HRW2.out.below hb6
                have hbw6 := HBZ2.out.trans (hb6.mono HBZ2.out.size)
                obtain ⟨v1, w7, hrun, rown, hgrow, hkept⟩ := run_append_row (P := Try.prog) w6 w5.heap.size 50 50 23 j0 (.agg #[.int .i64 0, .int .i64 0, .int .i64 0]) 3 24 (by kernel_rfl) HJ.out HY0.out HY1.out HY2.out rfl (noWordI3 _ _ _) _ (2 * (y * 2 + x)) _ hrow6 ⟨wr.heap.size, 0, none⟩ 2 2 [.int .i64 cb, .int .i64 cd, .int .i64 ca, .int .i64 cd, .int .i64 cb, .int .i64 cc] (by omega) rfl hpn.news (by intro u hu; simp at hu; rcases hu with rfl | rfl | rfl | rfl | rfl | rfl <;> rfl) (noWordI6 _ _ _ _ _ _) (by unfold maxLen; omega) (by omega) (by have := hbw6.size; omega)
                have hbw7 : Below w5.heap.size w5 w7 := hbw6.grown hgrow (by have := hbw6.size; omega) (fun k hk => (hrow6.lt k hk).1)
                have htk : tr3Cells ((gridT 2 1 bn).take (2 * (y * 2 + x))) ++ [.int .i64 cb, .int .i64 cd, .int .i64 ca, .int .i64 cd, .int .i64 cb, .int .i64 cc] = tr3Cells ((gridT 2 1 bn).take (2 * (y * 2 + (x + 1)))) := by
                  obtain ⟨na, nb, nc, nd⟩ := HNA.out
                  rw [show 2 * (y * 2 + (x + 1)) = 2 * (y * 2 + x) + 1 + 1 by omega, List.take_add_one, List.take_add_one, HEV'.out, HOD'.out, tr3_app, tr3_app, List.append_assoc]
                  simp only [Option.toList_some, tr3Cells, na, nb, nc, nd, List.cons_append, List.nil_append]
                rw [htk, show 2 * (y * 2 + x) + 2 = 2 * (y * 2 + (x + 1)) by omega] at rown
                have FIN := Lib.hid (And.intro rown hbw7)
                clear hpn hb6 hs6 hrow6 hbw6 rown hgrow hkept hbw7 htk
                go_wp2_with (refine wpList_append_row rfl _ _ 50 rfl rfl rfl hrun ?_)
                have hkk := HKK.out
                refine ⟨⟨_, _, _, _, _, _, _, _, _, _, _, _, _, _, _, _, _, _, _, _, _, _, _, _, _, _, _, _, _, _, _, _, _, _, _, _, _, _, _, _, _, _, _, _, _, _, _, _, _, _, _, _, _, _, _, _, _, _, _, _, ?_, rfl⟩, by simp [intOf]; omega⟩
                exact ⟨x + 1, _, by omega, by go_num, congrArg (Value.int .i64) (by omega), rfl, FIN.out.1, FIN.out.2⟩
              · have hev' : (gridT 2 1 bn)[2 * (y * 2 + x)]? = some (y * 3 + x, y * 3 + (x + 1), (y + 1) * 3 + (x + 1)) := HEV.out
                have hod' : (gridT 2 1 bn)[2 * (y * 2 + x) + 1]? = some ((y + 1) * 3 + (x + 1), (y + 1) * 3 + x, y * 3 + x) := HOD.out
                have HEV' := Lib.hid hev'; have HOD' := Lib.hid hod'
                clear hev' hod'
                go_wp2_with fail
                refine C0.out.mono ?_
                rintro e w6 ⟨rfl, rfl⟩
                go_wp2_with fail
                refine C1.out.mono ?_
                rintro e w6 ⟨rfl, rfl⟩
                go_wp2_with fail
                refine C2.out.mono ?_
                rintro e w6 ⟨rfl, rfl⟩
                go_wp2_with fail
                refine C3.out.mono ?_
                rintro e w6 ⟨rfl, rfl⟩
                obtain ⟨w6, hw6, hpn, hb6, hs6⟩ := new_box wr _ rfl [.int .i64 ca, .int .i64 cb, .int .i64 cc, .int .i64 cc, .int .i64 cd, .int .i64 ca] 23
                have hrow6 := HRW2.out.below hb6
                have hbw6 := HBZ2.out.trans (hb6.mono HBZ2.out.size)
                obtain ⟨v1, w7, hrun, rown, hgrow, hkept⟩ := run_append_row (P := Try.prog) w6 w5.heap.size 50 50 23 j0 (.agg #[.int .i64 0, .int .i64 0, .int .i64 0]) 3 24 (by kernel_rfl) HJ.out HY0.out HY1.out HY2.out rfl (noWordI3 _ _ _) _ (2 * (y * 2 + x)) _ hrow6 ⟨wr.heap.size, 0, none⟩ 2 2 [.int .i64 ca, .int .i64 cb, .int .i64 cc, .int .i64 cc, .int .i64 cd, .int .i64 ca] (by omega) rfl hpn.news (by intro u hu; simp at hu; rcases hu with rfl | rfl | rfl | rfl | rfl | rfl <;> rfl) (noWordI6 _ _ _ _ _ _) (by unfold maxLen; omega) (by omega) (by have := hbw6.size; omega)
                have hbw7 : Below w5.heap.size w5 w7 := hbw6.grown hgrow (by have := hbw6.size; omega) (fun k hk => (hrow6.lt k hk).1)
                have htk : tr3Cells ((gridT 2 1 bn).take (2 * (y * 2 + x))) ++ [.int .i64 ca, .int .i64 cb, .int .i64 cc, .int .i64 cc, .int .i64 cd, .int .i64 ca] = tr3Cells ((gridT 2 1 bn).take (2 * (y * 2 + (x + 1)))) := by
                  obtain ⟨na, nb, nc, nd⟩ := HNA.out
                  rw [show 2 * (y * 2 + (x + 1)) = 2 * (y * 2 + x) + 1 + 1 by omega, List.take_add_one, List.take_add_one, HEV'.out, HOD'.out, tr3_app, tr3_app, List.append_assoc]
                  simp only [Option.toList_some, tr3Cells, na, nb, nc, nd, List.cons_append, List.nil_append]
                rw [htk, show 2 * (y * 2 + x) + 2 = 2 * (y * 2 + (x + 1)) by omega] at rown
                have FIN := Lib.hid (And.intro rown hbw7)
                clear hpn hb6 hs6 hrow6 hbw6 rown hgrow hkept hbw7 htk
                go_wp2_with (refine wpList_append_row rfl _ _ 50 rfl rfl rfl hrun ?_)
                have hkk := HKK.out
                refine ⟨⟨_, _, _, _, _, _, _, _, _, _, _, _, _, _, _, _, _, _, _, _, _, _, _, _, _, _, _, _, _, _, _, _, _, _, _, _, _, _, _, _, _, _, _, _, _, _, _, _, _, _, _, _, _, _, _, _, _, _, _, _, ?_, rfl⟩, by simp [intOf]; omega⟩
                exact ⟨x + 1, _, by omega, by go_num, congrArg (Value.int .i64) (by omega), rfl, FIN.out.1, FIN.out.2⟩
            · obtain rfl : x = 2 := by omega
              have FIN := Lib.hid (And.intro hrow hbw)
              clear hrow hbw
              go_wp2
              have hrow := FIN.out.1
              rw [show y * 2 + 2 = (y + 1) * 2 by omega] at hrow
              exact ⟨⟨y + 1, _, by omega, by go_num, congrArg (Value.int .i64) (by omega), rfl, hrow, FIN.out.2⟩, by simp [intOf]; omega⟩
        · obtain rfl : y = 1 := by omega
          have hgl := HM.out.len
          have htt : (gridT 2 1 bn).take (2 * (1 * 2)) = gridT 2 1 bn := List.take_of_length_le (by rw [hgl]; omega)
          rw [htt] at hrow
          obtain ⟨gt, gtc, hvv⟩ : ∃ g c, vv = .slice (some ⟨g, 0, none⟩) 4 c := by
            rcases hrow.2 with ⟨h1, h2⟩ | ⟨g, cap, cur, h1, h2, h3⟩
            · omega
            · exact ⟨g, cap, h1⟩
          subst hvv
          have hgtl := hrow.lt gt rfl
          obtain ⟨w7, hw7⟩ : ∃ w7, w7 = wr := ⟨_, rfl⟩
          rw [← hw7] at hrow hbw hgtl
          rw [← hw7]
          clear hw7
          obtain ⟨fb, hfb⟩ : ∃ fb, w7.heap.size = fb := ⟨_, rfl⟩
          obtain ⟨hmk, hmp⟩ := run_new_map (P := Try.prog) w7 93 48
          obtain ⟨w8, hw8⟩ : ∃ w8, w7.alloc (.map #[] 0) = w8 := ⟨_, rfl⟩
          rw [hw8, hfb] at hmk hmp
          have hb8 : Below fb w7 w8 := by rw [← hw8, ← hfb]; exact (Below.refl _ _).alloc (Nat.le_refl _) _
          have htr := hrow.trIn
          have HRWT := Lib.hid hrow; have HBT := Lib.hid hbw; have HTR := Lib.hid htr; have HGTL := Lib.hid hgtl; have HFB := Lib.hid hfb; have HMP := Lib.hid (fault_new hmp); have HB8 := Lib.hid hb8
          clear hrow hbw htr hgtl hfb hmp hb8 hw8
          go_wp2
          clear hmk
          go_loopw [23, 25, 26, 116] (fun nv _ _ iv wr => ∃ j : Nat, j ≤ 4 ∧ iv = .int .i64 (j : Int) ∧ nv = .int .i64 ((3 * j : Nat) : Int) ∧ (∃ F, FaultMap Try.prog 48 wr fb F) ∧ Below fb w7 wr) (fun _ _ _ iv _ => 4 - (intOf iv).toNat)
          case atStart => exact ⟨0, Nat.zero_le _, rfl, rfl, ⟨_, HMP.out⟩, HB8.out⟩
          case round =>
            obtain ⟨j, hj, rfl, rfl, ⟨F, hF⟩, hbw⟩ := hrel
            by_cases hlt : j < 4
            · have hyd : decide ((j : Int) < 4) = true := decide_eq_true (by omega)
              obtain ⟨⟨x, y, z⟩, hv⟩ : ∃ v, (gridT 2 1 bn)[j]? = some v := ⟨_, List.getElem?_eq_getElem (by have := HM.out.len; omega)⟩
              obtain ⟨px, py, pz⟩ := OK.out.pts _ (List.mem_of_getElem? hv)
              have hpl6 := OK.out.many
              simp only [] at px py pz
              have htk := HTR.out j (x : Int) (y : Int) (z : Int) (by rw [List.getElem?_map, hv]; rfl)
              have hfb := HFB.out
              have l1 := World.block_lt_of_cell? w7 _ htk.1
              simp only [] at l1
              have ka := (hbw.cell (p := ⟨gt, j * 3, none⟩) (by show gt < fb; omega)).trans htk.1
              have kb := (hbw.cell (p := ⟨gt, j * 3 + 1, none⟩) (by show gt < fb; omega)).trans htk.2.1
              have kc := (hbw.cell (p := ⟨gt, j * 3 + 2, none⟩) (by show gt < fb; omega)).trans htk.2.2
              obtain ⟨w9, hw9, hpv, hb9, hs9⟩ := new_box wr _ rfl [.int .i64 (x : Int), .int .i64 (y : Int), .int .i64 (z : Int)] 23
              have hF9 := hF.same (hb9.block fb hF.lt)
              have hfl := hF.lt
              have hbw9 : Below fb w7 w9 := hbw.trans (hb9.mono (by omega))
              obtain ⟨tb, htb⟩ : ∃ tb, wr.heap.size = tb := ⟨_, rfl⟩
              have htf : fb < tb := by omega
              rw [htb] at hpv
              have HF9 := Lib.hid hF9; have HBW9 := Lib.hid hbw9; have HPV := Lib.hid hpv
              have hxyz : x < 10 ∧ y < 10 ∧ z < 10 := by
                have : (gridP 2 1).length = 6 := rfl
                omega
              clear hv px py pz htk hfb l1 hb9 hs9 hF9 hbw9 hpv hF hbw hfl hpl6
              go_wp2
              clear ka kb kc hw9 htb
              go_loopw [23, 26, 120] (fun nv _ iv wr => ∃ i : Nat, i ≤ 3 ∧ iv = .int .i64 (i : Int) ∧ nv = .int .i64 ((3 * j + i : Nat) : Int) ∧ (∃ F, FaultMap Try.prog 48 wr fb F) ∧ Box wr tb [.int .i64 (x : Int), .int .i64 (y : Int), .int .i64 (z : Int)] ∧ Below fb w7 wr) (fun _ _ iv _ => 3 - (intOf iv).toNat)
              case atStart => exact ⟨0, Nat.zero_le _, rfl, rfl, ⟨_, HF9.out⟩, HPV.out, HBW9.out⟩
              case round =>
                obtain ⟨i, hi, rfl, rfl, ⟨F2, hF2⟩, hbx, hbw⟩ := hrel
                by_cases hli : i < 3
                · obtain ⟨nn, hnn⟩ : ∃ nn : Nat, 3 * j + i = nn := ⟨_, rfl⟩
                  have hnn24 : nn < 24 := by omega
                  have HNN := Lib.hid hnn
                  rw [hnn]
                  clear hnn
                  have HF2 := Lib.hid hF2; have HBX2 := Lib.hid hbx; have HBW2 := Lib.hid hbw
                  clear hF2 hbx hbw
                  obtain ⟨q, hq⟩ : ∃ q : Bool, (bits .and .u32 (f / 2 ^ (nn % 32)) 1 == 1) = q := ⟨_, rfl⟩
                  have hfb2 := HF2.out.lt
                  have hd3 := (HF2.out.same (w' := wr.drew) rfl)
                  have hx3 := HBX2.out.drew
                  have hw3 := HBW2.out.drew'
                  have HF3 := Lib.hid hd3; have HBX3 := Lib.hid hx3; have HBW3 := Lib.hid hw3
                  clear hd3 hx3 hw3
                  cases q
                  · go_wp2
                    have hnn := HNN.out
                    exact ⟨⟨i + 1, by omega, by go_num, congrArg (Value.int .i64) (by omega), ⟨_, HF2.out⟩, HBX2.out, HBW2.out⟩, by simp [intOf]; omega⟩
                  · obtain rfl | rfl | rfl : i = 0 ∨ i = 1 ∨ i = 2 := by omega
                    · obtain ⟨mn, hmn⟩ : ∃ mn : Int, (if (y : Int) < (x : Int) then (y : Int) else (x : Int)) = mn := ⟨_, rfl⟩
                      obtain ⟨mx, hmx⟩ : ∃ mx : Int, (if (y : Int) > (x : Int) then (y : Int) else (x : Int)) = mx := ⟨_, rfl⟩
                      have bmn : -1000000 ≤ mn ∧ mn ≤ 1000000 := by rw [← hmn]; split <;> omega
                      have bmx : -1000000 ≤ mx ∧ mx ≤ 1000000 := by rw [← hmx]; split <;> omega
                      have hmin : ∀ w : World, Sem.run Try.prog (Builtin.min_ #[3, 3] 3 #[.int .i64 (x : Int), .int .i64 (y : Int)]) w = Result.ok (Value.int .i64 mn) w := fun w => by rw [run_min_int2, hmn]
                      have hmax : ∀ w : World, Sem.run Try.prog (Builtin.max_ #[3, 3] 3 #[.int .i64 (x : Int), .int .i64 (y : Int)]) w = Result.ok (Value.int .i64 mx) w := fun w => by rw [run_max_int2, hmx]
                      have hwk : (IntKind.i64.wrap 1).tmod 3 = 1 := by decide
                      obtain ⟨wm, F4, hup, hT4, hF4⟩ := fault_store HF3.out bmn bmx
                      have hx0 := HBX3.out.c 0 _ rfl; have hx1 := HBX3.out.c 1 _ rfl
                      have hbx4 := HBX3.out.turned hT4 (by omega)
                      have hbw4 : Below fb w7 wm := Below.turned HBW3.out hT4 (Nat.le_refl _)
                      have hy0 := hbx4.c 0 _ rfl; have hy1 := hbx4.c 1 _ rfl
                      have FIN := Lib.hid (And.intro hF4 (And.intro hbx4 hbw4))
                      clear hmn hmx bmn bmx hT4 hF4 hbx4 hbw4
                      go_wp2_with fail
                      obtain ⟨SSs, hSSs⟩ : ∃ S : Array Bool → World → Prop, ∀ l w', S l w' ↔ ((w'.cell? ⟨tb, 0, none⟩ = some (.int .i64 (x : Int))) ∧ (w'.cell? ⟨tb, 1, none⟩ = some (.int .i64 (y : Int)))) := ⟨_, fun _ _ => Iff.rfl⟩
                      refine wp_region_noPanic ?_
                      refine wp_region_G SSs 21 #[false, false, false, false, false, false, false, false, false, false, false, false, false, false, false, false, false, false, false, false, false] (by kernel_rfl) (by kernel_rfl) (by kernel_rfl) ((hSSs _ _).2 ⟨hx0, hx1⟩) (fun hCl hHeld => ?_)
                      generalize wr.drew = wd at *
                      refine reg_takeG 0 ?_ ?_ ?_ (by kernel_rfl) (by kernel_rfl) (by kernel_rfl) (fun _ _ _ h => h) ?_ ?_ ?_ hCl hHeld ?_
                      rotate_left 2
                      · simp only [List.getElem?_toArray, List.getElem?_cons_zero]; exact rfl
                      · intro l w'; rw [hSSs, hSSs]
                      · rfl
                      · intro w' hA; clear hA; go_simp; try with_reducible rfl
                      clear hCl hHeld
                      intro hCl hHeld
                      simp only [List.setIfInBounds_toArray, List.set_cons_zero] at hCl hHeld
                      try simp only [Act.put]
                      try simp only [List.setIfInBounds_toArray, List.set_cons_zero, List.set_cons_succ]
                      refine reg_takeG 1 ?_ ?_ ?_ (by kernel_rfl) (by kernel_rfl) (by kernel_rfl) (fun _ _ _ h => h) ?_ ?_ ?_ hCl hHeld ?_
                      rotate_left 2
                      · simp only [List.getElem?_toArray, List.getElem?_cons_succ, List.getElem?_cons_zero]; exact rfl
                      · intro l w'; rw [hSSs, hSSs]
                      · rfl
                      · intro w' hA; clear hA; go_simp; try with_reducible rfl
                      clear hCl hHeld
                      intro hCl hHeld
                      simp only [List.setIfInBounds_toArray, List.set_cons_zero, List.set_cons_succ] at hCl hHeld
                      try simp only [Act.put]
                      try simp only [List.setIfInBounds_toArray, List.set_cons_zero, List.set_cons_succ]
                      refine reg_takeG 2 ?_ ?_ ?_ (by kernel_rfl) (by kernel_rfl) (by kernel_rfl) (fun _ _ _ h => h) ?_ ?_ ?_ hCl hHeld ?_
                      rotate_left 2
                      · simp only [List.getElem?_toArray, List.getElem?_cons_succ, List.getElem?_cons_zero]; exact rfl
                      · intro l w'; rw [hSSs, hSSs]
                      · rfl
                      · intro w' hA; clear hA; go_simp; try with_reducible rfl
                      clear hCl hHeld
                      intro hCl hHeld
                      simp only [List.setIfInBounds_toArray, List.set_cons_zero, List.set_cons_succ] at hCl hHeld
                      try simp only [Act.put]
                      try simp only [List.setIfInBounds_toArray, List.set_cons_zero, List.set_cons_succ]
                      refine reg_takeG 3 ?_ ?_ ?_ (by kernel_rfl) (by kernel_rfl) (by kernel_rfl) (fun _ _ _ h => h) ?_ ?_ ?_ hCl hHeld ?_
                      rotate_left 2
                      · simp only [List.getElem?_toArray, List.getElem?_cons_succ, List.getElem?_cons_zero]; exact rfl
                      · intro l w'; rw [hSSs, hSSs]
                      · rfl
                      · intro w' hA; obtain ⟨l, hl, hi, hSl⟩ := hA; have hSl := (hSSs _ _).1 hSl; obtain ⟨hz0, hz1⟩ := hSl; go_simp; try with_reducible rfl
                      clear hCl hHeld
                      intro hCl hHeld
                      simp only [List.setIfInBounds_toArray, List.set_cons_zero, List.set_cons_succ] at hCl hHeld
                      try simp only [Act.put]
                      try simp only [List.setIfInBounds_toArray, List.set_cons_zero, List.set_cons_succ]
                      refine reg_takeG 4 ?_ ?_ ?_ (by kernel_rfl) (by kernel_rfl) (by kernel_rfl) (fun _ _ _ h => h) ?_ ?_ ?_ hCl hHeld ?_
                      rotate_left 2
                      · simp only [List.getElem?_toArray, List.getElem?_cons_succ, List.getElem?_cons_zero]; exact rfl
                      · intro l w'; rw [hSSs, hSSs]
                      · rfl
                      · intro w' hA; clear hA; go_simp; try with_reducible rfl
                      clear hCl hHeld
                      intro hCl hHeld
                      simp only [List.setIfInBounds_toArray, List.set_cons_zero, List.set_cons_succ] at hCl hHeld
                      try simp only [Act.put]
                      try simp only [List.setIfInBounds_toArray, List.set_cons_zero, List.set_cons_succ]
                      refine reg_takeG 5 ?_ ?_ ?_ (by kernel_rfl) (by kernel_rfl) (by kernel_rfl) (fun _ _ _ h => h) ?_ ?_ ?_ hCl hHeld ?_
                      rotate_left 2
                      · simp only [List.getElem?_toArray, List.getElem?_cons_succ, List.getElem?_cons_zero]; exact rfl
                      · intro l w'; rw [hSSs, hSSs]
                      · rfl
                      · intro w' hA; clear hA; go_simp; try with_reducible rfl
                      clear hCl hHeld
                      intro hCl hHeld
                      simp only [List.setIfInBounds_toArray, List.set_cons_zero, List.set_cons_succ] at hCl hHeld
                      try simp only [Act.put]
                      try simp only [List.setIfInBounds_toArray, List.set_cons_zero, List.set_cons_succ]
                      refine reg_takeG 6 ?_ ?_ ?_ (by kernel_rfl) (by kernel_rfl) (by kernel_rfl) (fun _ _ _ h => h) ?_ ?_ ?_ hCl hHeld ?_
                      rotate_left 2
                      · simp only [List.getElem?_toArray, List.getElem?_cons_succ, List.getElem?_cons_zero]; exact rfl
                      · intro l w'; rw [hSSs, hSSs]
                      · rfl
                      · intro w' hA; clear hA; go_simp; try with_reducible rfl
                      clear hCl hHeld
                      intro hCl hHeld
                      simp only [List.setIfInBounds_toArray, List.set_cons_zero, List.set_cons_succ] at hCl hHeld
                      try simp only [Act.put]
                      try simp only [List.setIfInBounds_toArray, List.set_cons_zero, List.set_cons_succ]
                      refine reg_takeG 7 ?_ ?_ ?_ (by kernel_rfl) (by kernel_rfl) (by kernel_rfl) (fun _ _ _ h => h) ?_ ?_ ?_ hCl hHeld ?_
                      rotate_left 2
                      · simp only [List.getElem?_toArray, List.getElem?_cons_succ, List.getElem?_cons_zero]; exact rfl
                      · intro l w'; rw [hSSs, hSSs]
                      · rfl
                      · intro w' hA; clear hA; go_simp; try with_reducible rfl
                      clear hCl hHeld
                      intro hCl hHeld
                      simp only [List.setIfInBounds_toArray, List.set_cons_zero, List.set_cons_succ] at hCl hHeld
                      try simp only [Act.put]
                      try simp only [List.setIfInBounds_toArray, List.set_cons_zero, List.set_cons_succ]
                      refine reg_takeG 8 ?_ ?_ ?_ (by kernel_rfl) (by kernel_rfl) (by kernel_rfl) (fun _ _ _ h => h) ?_ ?_ ?_ hCl hHeld ?_
                      rotate_left 2
                      · simp only [List.getElem?_toArray, List.getElem?_cons_succ, List.getElem?_cons_zero]; exact rfl
                      · intro l w'; rw [hSSs, hSSs]
                      · rfl
                      · intro w' hA; obtain ⟨l, hl, hi, hSl⟩ := hA; have hSl := (hSSs _ _).1 hSl; obtain ⟨hz0, hz1⟩ := hSl; go_simp; try with_reducible rfl
                      clear hCl hHeld
                      intro hCl hHeld
                      simp only [List.setIfInBounds_toArray, List.set_cons_zero, List.set_cons_succ] at hCl hHeld
                      try simp only [Act.put]
                      try simp only [List.setIfInBounds_toArray, List.set_cons_zero, List.set_cons_succ]
                      refine reg_takeG 9 ?_ ?_ ?_ (by kernel_rfl) (by kernel_rfl) (by kernel_rfl) (fun _ _ _ h => h) ?_ ?_ ?_ hCl hHeld ?_
                      rotate_left 2
                      · simp only [List.getElem?_toArray, List.getElem?_cons_succ, List.getElem?_cons_zero]; exact rfl
                      · intro l w'; rw [hSSs, hSSs]
                      · rfl
                      · intro w' hA; clear hA; go_simp; try with_reducible rfl
                      clear hCl hHeld
                      intro hCl hHeld
                      simp only [List.setIfInBounds_toArray, List.set_cons_zero, List.set_cons_succ] at hCl hHeld
                      try simp only [Act.put]
                      try simp only [List.setIfInBounds_toArray, List.set_cons_zero, List.set_cons_succ]
                      refine reg_takeG 10 ?_ ?_ ?_ (by kernel_rfl) (by kernel_rfl) (by kernel_rfl) (fun _ _ _ h => h) ?_ ?_ ?_ hCl hHeld ?_
                      rotate_left 2
                      · simp only [List.getElem?_toArray, List.getElem?_cons_succ, List.getElem?_cons_zero]; exact rfl
                      · intro l w'; rw [hSSs, hSSs]
                      · rfl
                      · intro w' hA; clear hA; go_simp; try with_reducible rfl
                      clear hCl hHeld
                      intro hCl hHeld
                      simp only [List.setIfInBounds_toArray, List.set_cons_zero, List.set_cons_succ] at hCl hHeld
                      try simp only [Act.put]
                      try simp only [List.setIfInBounds_toArray, List.set_cons_zero, List.set_cons_succ]
                      refine reg_takeG 11 ?_ ?_ ?_ (by kernel_rfl) (by kernel_rfl) (by kernel_rfl) (fun _ _ _ h => h) ?_ ?_ ?_ hCl hHeld ?_
                      rotate_left 2
                      · simp only [List.getElem?_toArray, List.getElem?_cons_succ, List.getElem?_cons_zero]; exact rfl
                      · intro l w'; rw [hSSs, hSSs]
                      · rfl
                      · intro w' hA; clear hA; go_simp; try with_reducible rfl
                      clear hCl hHeld
                      intro hCl hHeld
                      simp only [List.setIfInBounds_toArray, List.set_cons_zero, List.set_cons_succ] at hCl hHeld
                      try simp only [Act.put]
                      try simp only [List.setIfInBounds_toArray, List.set_cons_zero, List.set_cons_succ]
                      refine reg_takeG 12 ?_ ?_ ?_ (by kernel_rfl) (by kernel_rfl) (by kernel_rfl) (fun _ _ _ h => h) ?_ ?_ ?_ hCl hHeld ?_
                      rotate_left 2
                      · simp only [List.getElem?_toArray, List.getElem?_cons_succ, List.getElem?_cons_zero]; exact rfl
                      · intro l w'; rw [hSSs, hSSs]
                      · rfl
                      · intro w' hA; obtain ⟨l, hl, hi, hSl⟩ := hA; have hSl := (hSSs _ _).1 hSl; obtain ⟨hz0, hz1⟩ := hSl; go_simp; try with_reducible rfl
                      clear hCl hHeld
                      intro hCl hHeld
                      simp only [List.setIfInBounds_toArray, List.set_cons_zero, List.set_cons_succ] at hCl hHeld
                      try simp only [Act.put]
                      try simp only [List.setIfInBounds_toArray, List.set_cons_zero, List.set_cons_succ]
                      refine reg_takeG 13 ?_ ?_ ?_ (by kernel_rfl) (by kernel_rfl) (by kernel_rfl) (fun _ _ _ h => h) ?_ ?_ ?_ hCl hHeld ?_
                      rotate_left 2
                      · simp only [List.getElem?_toArray, List.getElem?_cons_succ, List.getElem?_cons_zero]; exact rfl
                      · intro l w'; rw [hSSs, hSSs]
                      · rfl
                      · intro w' hA; clear hA; go_simp; try with_reducible rfl
                      clear hCl hHeld
                      intro hCl hHeld
                      simp only [List.setIfInBounds_toArray, List.set_cons_zero, List.set_cons_succ] at hCl hHeld
                      try simp only [Act.put]
                      try simp only [List.setIfInBounds_toArray, List.set_cons_zero, List.set_cons_succ]
                      refine reg_takeG 14 ?_ ?_ ?_ (by kernel_rfl) (by kernel_rfl) (by kernel_rfl) (fun _ _ _ h => h) ?_ ?_ ?_ hCl hHeld ?_
                      rotate_left 2
                      · simp only [List.getElem?_toArray, List.getElem?_cons_succ, List.getElem?_cons_zero]; exact rfl
                      · intro l w'; rw [hSSs, hSSs]
                      · rfl
                      · intro w' hA; clear hA; go_simp; try with_reducible rfl
                      clear hCl hHeld
                      intro hCl hHeld
                      simp only [List.setIfInBounds_toArray, List.set_cons_zero, List.set_cons_succ] at hCl hHeld
                      try simp only [Act.put]
                      try simp only [List.setIfInBounds_toArray, List.set_cons_zero, List.set_cons_succ]
                      refine reg_takeG 15 ?_ ?_ ?_ (by kernel_rfl) (by kernel_rfl) (by kernel_rfl) (fun _ _ _ h => h) ?_ ?_ ?_ hCl hHeld ?_
                      rotate_left 2
                      · simp only [List.getElem?_toArray, List.getElem?_cons_succ, List.getElem?_cons_zero]; exact rfl
                      · intro l w'; rw [hSSs, hSSs]
                      · rfl
                      · intro w' hA; clear hA; go_simp; try with_reducible rfl
                      clear hCl hHeld
                      intro hCl hHeld
                      simp only [List.setIfInBounds_toArray, List.set_cons_zero, List.set_cons_succ] at hCl hHeld
                      try simp only [Act.put]
                      try simp only [List.setIfInBounds_toArray, List.set_cons_zero, List.set_cons_succ]
                      refine reg_takeG 16 ?_ ?_ ?_ (by kernel_rfl) (by kernel_rfl) (by kernel_rfl) (fun _ _ _ h => h) ?_ ?_ ?_ hCl hHeld ?_
                      rotate_left 2
                      · simp only [List.getElem?_toArray, List.getElem?_cons_succ, List.getElem?_cons_zero]; exact rfl
                      · intro l w'; rw [hSSs, hSSs]
                      · rfl
                      · intro w' hA; clear hA; go_simp; try with_reducible rfl
                      clear hCl hHeld
                      intro hCl hHeld
                      simp only [List.setIfInBounds_toArray, List.set_cons_zero, List.set_cons_succ] at hCl hHeld
                      try simp only [Act.put]
                      try simp only [List.setIfInBounds_toArray, List.set_cons_zero, List.set_cons_succ]
                      refine reg_takeG 17 ?_ ?_ ?_ (by kernel_rfl) (by kernel_rfl) (by kernel_rfl) (fun _ _ _ h => h) ?_ ?_ ?_ hCl hHeld ?_
                      rotate_left 2
                      · simp only [List.getElem?_toArray, List.getElem?_cons_succ, List.getElem?_cons_zero]; exact rfl
                      · intro l w'; rw [hSSs, hSSs]
                      · rfl
                      · intro w' hA; obtain ⟨l, hl, hi, hSl⟩ := hA; have hSl := (hSSs _ _).1 hSl; obtain ⟨hz0, hz1⟩ := hSl; go_simp; try with_reducible rfl
                      clear hCl hHeld
                      intro hCl hHeld
                      simp only [List.setIfInBounds_toArray, List.set_cons_zero, List.set_cons_succ] at hCl hHeld
                      try simp only [Act.put]
                      try simp only [List.setIfInBounds_toArray, List.set_cons_zero, List.set_cons_succ]
                      refine reg_takeG 18 ?_ ?_ ?_ (by kernel_rfl) (by kernel_rfl) (by kernel_rfl) (fun _ _ _ h => h) ?_ ?_ ?_ hCl hHeld ?_
                      rotate_left 2
                      · simp only [List.getElem?_toArray, List.getElem?_cons_succ, List.getElem?_cons_zero]; exact rfl
                      · intro l w'; rw [hSSs, hSSs]
                      · rfl
                      · intro w' hA; clear hA; go_simp; try with_reducible rfl
                      clear hCl hHeld
                      intro hCl hHeld
                      simp only [List.setIfInBounds_toArray, List.set_cons_zero, List.set_cons_succ] at hCl hHeld
                      try simp only [Act.put]
                      try simp only [List.setIfInBounds_toArray, List.set_cons_zero, List.set_cons_succ]
                      refine reg_takeG 19 ?_ ?_ ?_ (by kernel_rfl) (by kernel_rfl) (by kernel_rfl) (fun _ _ _ h => h) ?_ ?_ ?_ hCl hHeld ?_
                      rotate_left 2
                      · simp only [List.getElem?_toArray, List.getElem?_cons_succ, List.getElem?_cons_zero]; exact rfl
                      · intro l w'; rw [hSSs, hSSs]
                      · rfl
                      · intro w' hA; clear hA; go_simp; try with_reducible rfl
                      clear hCl hHeld
                      intro hCl hHeld
                      simp only [List.setIfInBounds_toArray, List.set_cons_zero, List.set_cons_succ] at hCl hHeld
                      try simp only [Act.put]
                      try simp only [List.setIfInBounds_toArray, List.set_cons_zero, List.set_cons_succ]
                      clear hCl hHeld
                      refine reg_callG 20 ?_ (by kernel_rfl) ?_ (fun K hK => ?_)
                      rotate_left 1
                      · simp only [List.getElem?_toArray, List.getElem?_cons_succ, List.getElem?_cons_zero]; exact rfl
                      go_simp
                      clear hx0 hx1 hup
                      refine hK.out _ _ ((hSSs _ _).2 ⟨hy0, hy1⟩) ?_
                      clear hK K
                      try simp only [Act.put]
                      try simp only [List.setIfInBounds_toArray, List.set_cons_zero, List.set_cons_succ]
                      refine wpAnyG_done (by kernel_rfl) ?_ _
                      refine NoPanic.normal ?_
                      clear hSSs SSs
                      go_wp2
                      have hnn := HNN.out
                      refine ⟨⟨_, _, _, _, _, _, _, _, _, _, _, _, _, _, _, _, _, _, _, _, _, _, _, _, _, _, _, _, _, _, _, _, _, _, ?_, rfl⟩, by simp [intOf]⟩
                      exact ⟨0 + 1, by omega, by go_num, congrArg (Value.int .i64) (by omega), ⟨_, FIN.out.1⟩, FIN.out.2.1, FIN.out.2.2⟩
                    · obtain ⟨mn, hmn⟩ : ∃ mn : Int, (if (z : Int) < (y : Int) then (z : Int) else (y : Int)) = mn := ⟨_, rfl⟩
                      obtain ⟨mx, hmx⟩ : ∃ mx : Int, (if (z : Int) > (y : Int) then (z : Int) else (y : Int)) = mx := ⟨_, rfl⟩
                      have bmn : -1000000 ≤ mn ∧ mn ≤ 1000000 := by rw [← hmn]; split <;> omega
                      have bmx : -1000000 ≤ mx ∧ mx ≤ 1000000 := by rw [← hmx]; split <;> omega
                      have hmin : ∀ w : World, Sem.run Try.prog (Builtin.min_ #[3, 3] 3 #[.int .i64 (y : Int), .int .i64 (z : Int)]) w = Result.ok (Value.int .i64 mn) w := fun w => by rw [run_min_int2, hmn]
                      have hmax : ∀ w : World, Sem.run Try.prog (Builtin.max_ #[3, 3] 3 #[.int .i64 (y : Int), .int .i64 (z : Int)]) w = Result.ok (Value.int .i64 mx) w := fun w => by rw [run_max_int2, hmx]
                      have hwk : (IntKind.i64.wrap 2).tmod 3 = 2 := by decide
                      obtain ⟨wm, F4, hup, hT4, hF4⟩ := fault_store HF3.out bmn bmx
                      have hx0 := HBX3.out.c 1 _ rfl; have hx1 := HBX3.out.c 2 _ rfl
                      have hbx4 := HBX3.out.turned hT4 (by omega)
                      have hbw4 : Below fb w7 wm := Below.turned HBW3.out hT4 (Nat.le_refl _)
                      have hy0 := hbx4.c 1 _ rfl; have hy1 := hbx4.c 2 _ rfl
                      have FIN := Lib.hid (And.intro hF4 (And.intro hbx4 hbw4))
                      clear hmn hmx bmn bmx hT4 hF4 hbx4 hbw4
                      go_wp2_with fail
                      obtain ⟨SSs, hSSs⟩ : ∃ S : Array Bool → World → Prop, ∀ l w', S l w' ↔ ((w'.cell? ⟨tb, 1, none⟩ = some (.int .i64 (y : Int))) ∧ (w'.cell? ⟨tb, 2, none⟩ = some (.int .i64 (z : Int)))) := ⟨_, fun _ _ => Iff.rfl⟩
                      refine wp_region_noPanic ?_
                      refine wp_region_G SSs 21 #[false, false, false, false, false, false, false, false, false, false, false, false, false, false, false, false, false, false, false, false, false] (by kernel_rfl) (by kernel_rfl) (by kernel_rfl) ((hSSs _ _).2 ⟨hx0, hx1⟩) (fun hCl hHeld => ?_)
                      generalize wr.drew = wd at *
                      refine reg_takeG 0 ?_ ?_ ?_ (by kernel_rfl) (by kernel_rfl) (by kernel_rfl) (fun _ _ _ h => h) ?_ ?_ ?_ hCl hHeld ?_
                      rotate_left 2
                      · simp only [List.getElem?_toArray, List.getElem?_cons_zero]; exact rfl
                      · intro l w'; rw [hSSs, hSSs]
                      · rfl
                      · intro w' hA; clear hA; go_simp; try with_reducible rfl
                      clear hCl hHeld
                      intro hCl hHeld
                      simp only [List.setIfInBounds_toArray, List.set_cons_zero] at hCl hHeld
                      try simp only [Act.put]
                      try simp only [List.setIfInBounds_toArray, List.set_cons_zero, List.set_cons_succ]
                      refine reg_takeG 1 ?_ ?_ ?_ (by kernel_rfl) (by kernel_rfl) (by kernel_rfl) (fun _ _ _ h => h) ?_ ?_ ?_ hCl hHeld ?_
                      rotate_left 2
                      · simp only [List.getElem?_toArray, List.getElem?_cons_succ, List.getElem?_cons_zero]; exact rfl
                      · intro l w'; rw [hSSs, hSSs]
                      · rfl
                      · intro w' hA; clear hA; go_simp; try with_reducible rfl
                      clear hCl hHeld
                      intro hCl hHeld
                      simp only [List.setIfInBounds_toArray, List.set_cons_zero, List.set_cons_succ] at hCl hHeld
                      try simp only [Act.put]
                      try simp only [List.setIfInBounds_toArray, List.set_cons_zero, List.set_cons_succ]
                      refine reg_takeG 2 ?_ ?_ ?_ (by kernel_rfl) (by kernel_rfl) (by kernel_rfl) (fun _ _ _ h => h) ?_ ?_ ?_ hCl hHeld ?_
                      rotate_left 2
                      · simp only [List.getElem?_toArray, List.getElem?_cons_succ, List.getElem?_cons_zero]; exact rfl
                      · intro l w'; rw [hSSs, hSSs]
                      · rfl
                      · intro w' hA; clear hA; go_simp; try with_reducible rfl
                      clear hCl hHeld
                      intro hCl hHeld
                      simp only [List.setIfInBounds_toArray, List.set_cons_zero, List.set_cons_succ] at hCl hHeld
                      try simp only [Act.put]
                      try simp only [List.setIfInBounds_toArray, List.set_cons_zero, List.set_cons_succ]
                      refine reg_takeG 3 ?_ ?_ ?_ (by kernel_rfl) (by kernel_rfl) (by kernel_rfl) (fun _ _ _ h => h) ?_ ?_ ?_ hCl hHeld ?_
                      rotate_left 2
                      · simp only [List.getElem?_toArray, List.getElem?_cons_succ, List.getElem?_cons_zero]; exact rfl
                      · intro l w'; rw [hSSs, hSSs]
                      · rfl
                      · intro w' hA; obtain ⟨l, hl, hi, hSl⟩ := hA; have hSl := (hSSs _ _).1 hSl; obtain ⟨hz0, hz1⟩ := hSl; go_simp; try with_reducible rfl
                      clear hCl hHeld
                      intro hCl hHeld
                      simp only [List.setIfInBounds_toArray, List.set_cons_zero, List.set_cons_succ] at hCl hHeld
                      try simp only [Act.put]
                      try simp only [List.setIfInBounds_toArray, List.set_cons_zero, List.set_cons_succ]
                      refine reg_takeG 4 ?_ ?_ ?_ (by kernel_rfl) (by kernel_rfl) (by kernel_rfl) (fun _ _ _ h => h) ?_ ?_ ?_ hCl hHeld ?_
                      rotate_left 2
                      · simp only [List.getElem?_toArray, List.getElem?_cons_succ, List.getElem?_cons_zero]; exact rfl
                      · intro l w'; rw [hSSs, hSSs]
                      · rfl
                      · intro w' hA; clear hA; go_simp; try with_reducible rfl
                      clear hCl hHeld
                      intro hCl hHeld
                      simp only [List.setIfInBounds_toArray, List.set_cons_zero, List.set_cons_succ] at hCl hHeld
                      try simp only [Act.put]
                      try simp only [List.setIfInBounds_toArray, List.set_cons_zero, List.set_cons_succ]
                      refine reg_takeG 5 ?_ ?_ ?_ (by kernel_rfl) (by kernel_rfl) (by kernel_rfl) (fun _ _ _ h => h) ?_ ?_ ?_ hCl hHeld ?_
                      rotate_left 2
                      · simp only [List.getElem?_toArray, List.getElem?_cons_succ, List.getElem?_cons_zero]; exact rfl
                      · intro l w'; rw [hSSs, hSSs]
                      · rfl
                      · intro w' hA; clear hA; go_simp; try with_reducible rfl
                      clear hCl hHeld
                      intro hCl hHeld
                      simp only [List.setIfInBounds_toArray, List.set_cons_zero, List.set_cons_succ] at hCl hHeld
                      try simp only [Act.put]
                      try simp only [List.setIfInBounds_toArray, List.set_cons_zero, List.set_cons_succ]
                      refine reg_takeG 6 ?_ ?_ ?_ (by kernel_rfl) (by kernel_rfl) (by kernel_rfl) (fun _ _ _ h => h) ?_ ?_ ?_ hCl hHeld ?_
                      rotate_left 2
                      · simp only [List.getElem?_toArray, List.getElem?_cons_succ, List.getElem?_cons_zero]; exact rfl
                      · intro l w'; rw [hSSs, hSSs]
                      · rfl
                      · intro w' hA; clear hA; go_simp; try with_reducible rfl
                      clear hCl hHeld
                      intro hCl hHeld
                      simp only [List.setIfInBounds_toArray, List.set_cons_zero, List.set_cons_succ] at hCl hHeld
                      try simp only [Act.put]
                      try simp only [List.setIfInBounds_toArray, List.set_cons_zero, List.set_cons_succ]
                      refine reg_takeG 7 ?_ ?_ ?_ (by kernel_rfl) (by kernel_rfl) (by kernel_rfl) (fun _ _ _ h => h) ?_ ?_ ?_ hCl hHeld ?_
                      rotate_left 2
                      · simp only [List.getElem?_toArray, List.getElem?_cons_succ, List.getElem?_cons_zero]; exact rfl
                      · intro l w'; rw [hSSs, hSSs]
                      · rfl
                      · intro w' hA; clear hA; go_simp; try with_reducible rfl
                      clear hCl hHeld
                      intro hCl hHeld
                      simp only [List.setIfInBounds_toArray, List.set_cons_zero, List.set_cons_succ] at hCl hHeld
                      try simp only [Act.put]
                      try simp only [List.setIfInBounds_toArray, List.set_cons_zero, List.set_cons_succ]
                      refine reg_takeG 8 ?_ ?_ ?_ (by kernel_rfl) (by kernel_rfl) (by kernel_rfl) (fun _ _ _ h => h) ?_ ?_ ?_ hCl hHeld ?_
                      rotate_left 2
                      · simp only [List.getElem?_toArray, List.getElem?_cons_succ, List.getElem?_cons_zero]; exact rfl
                      · intro l w'; rw [hSSs, hSSs]
                      · rfl
                      · intro w' hA; obtain ⟨l, hl, hi, hSl⟩ := hA; have hSl := (hSSs _ _).1 hSl; obtain ⟨hz0, hz1⟩ := hSl; go_simp; try with_reducible rfl
                      clear hCl hHeld
                      intro hCl hHeld
                      simp only [List.setIfInBounds_toArray, List.set_cons_zero, List.set_cons_succ] at hCl hHeld
                      try simp only [Act.put]
                      try simp only [List.setIfInBounds_toArray, List.set_cons_zero, List.set_cons_succ]
                      refine reg_takeG 9 ?_ ?_ ?_ (by kernel_rfl) (by kernel_rfl) (by kernel_rfl) (fun _ _ _ h => h) ?_ ?_ ?_ hCl hHeld ?_
                      rotate_left 2
                      · simp only [List.getElem?_toArray, List.getElem?_cons_succ, List.getElem?_cons_zero]; exact rfl
                      · intro l w'; rw [hSSs, hSSs]
                      · rfl
                      · intro w' hA; clear hA; go_simp; try with_reducible rfl
                      clear hCl hHeld
                      intro hCl hHeld
                      simp only [List.setIfInBounds_toArray, List.set_cons_zero, List.set_cons_succ] at hCl hHeld
                      try simp only [Act.put]
                      try simp only [List.setIfInBounds_toArray, List.set_cons_zero, List.set_cons_succ]
                      refine reg_takeG 10 ?_ ?_ ?_ (by kernel_rfl) (by kernel_rfl) (by kernel_rfl) (fun _ _ _ h => h) ?_ ?_ ?_ hCl hHeld ?_
                      rotate_left 2
                      · simp only [List.getElem?_toArray, List.getElem?_cons_succ, List.getElem?_cons_zero]; exact rfl
                      · intro l w'; rw [hSSs, hSSs]
                      · rfl
                      · intro w' hA; clear hA; go_simp; try with_reducible rfl
                      clear hCl hHeld
                      intro hCl hHeld
                      simp only [List.setIfInBounds_toArray, List.set_cons_zero, List.set_cons_succ] at hCl hHeld
                      try simp only [Act.put]
                      try simp only [List.setIfInBounds_toArray, List.set_cons_zero, List.set_cons_succ]
                      refine reg_takeG 11 ?_ ?_ ?_ (by kernel_rfl) (by kernel_rfl) (by kernel_rfl) (fun _ _ _ h => h) ?_ ?_ ?_ hCl hHeld ?_
                      rotate_left 2
                      · simp only [List.getElem?_toArray, List.getElem?_cons_succ, List.getElem?_cons_zero]; exact rfl
                      · intro l w'; rw [hSSs, hSSs]
                      · rfl
                      · intro w' hA; clear hA; go_simp; try with_reducible rfl
                      clear hCl hHeld
                      intro hCl hHeld
                      simp only [List.setIfInBounds_toArray, List.set_cons_zero, List.set_cons_succ] at hCl hHeld
                      try simp only [Act.put]
                      try simp only [List.setIfInBounds_toArray, List.set_cons_zero, List.set_cons_succ]
                      refine reg_takeG 12 ?_ ?_ ?_ (by kernel_rfl) (by kernel_rfl) (by kernel_rfl) (fun _ _ _ h => h) ?_ ?_ ?_ hCl hHeld ?_
                      rotate_left 2
                      · simp only [List.getElem?_toArray, List.getElem?_cons_succ, List.getElem?_cons_zero]; exact rfl
                      · intro l w'; rw [hSSs, hSSs]
                      · rfl
                      · intro w' hA; obtain ⟨l, hl, hi, hSl⟩ := hA; have hSl := (hSSs _ _).1 hSl; obtain ⟨hz0, hz1⟩ := hSl; go_simp; try with_reducible rfl
                      clear hCl hHeld
                      intro hCl hHeld
                      simp only [List.setIfInBounds_toArray, List.set_cons_zero, List.set_cons_succ] at hCl hHeld
                      try simp only [Act.put]
                      try simp only [List.setIfInBounds_toArray, List.set_cons_zero, List.set_cons_succ]
                      refine reg_takeG 13 ?_ ?_ ?_ (by kernel_rfl) (by kernel_rfl) (by kernel_rfl) (fun _ _ _ h => h) ?_ ?_ ?_ hCl hHeld ?_
                      rotate_left 2
                      · simp only [List.getElem?_toArray, List.getElem?_cons_succ, List.getElem?_cons_zero]; exact rfl
                      · intro l w'; rw [hSSs, hSSs]
                      · rfl
                      · intro w' hA; clear hA; go_simp; try with_reducible rfl
                      clear hCl hHeld
                      intro hCl hHeld
                      simp only [List.setIfInBounds_toArray, List.set_cons_zero, List.set_cons_succ] at hCl hHeld
                      try simp only [Act.put]
                      try simp only [List.setIfInBounds_toArray, List.set_cons_zero, List.set_cons_succ]
                      refine reg_takeG 14 ?_ ?_ ?_ (by kernel_rfl) (by kernel_rfl) (by kernel_rfl) (fun _ _ _ h => h) ?_ ?_ ?_ hCl hHeld ?_
                      rotate_left 2
                      · simp only [List.getElem?_toArray, List.getElem?_cons_succ, List.getElem?_cons_zero]; exact rfl
                      · intro l w'; rw [hSSs, hSSs]
                      · rfl
                      · intro w' hA; clear hA; go_simp; try with_reducible rfl
                      clear hCl hHeld
                      intro hCl hHeld
                      simp only [List.setIfInBounds_toArray, List.set_cons_zero, List.set_cons_succ] at hCl hHeld
                      try simp only [Act.put]
                      try simp only [List.setIfInBounds_toArray, List.set_cons_zero, List.set_cons_succ]
                      refine reg_takeG 15 ?_ ?_ ?_ (by kernel_rfl) (by kernel_rfl) (by kernel_rfl) (fun _ _ _ h => h) ?_ ?_ ?_ hCl hHeld ?_
                      rotate_left 2
                      · simp only [List.getElem?_toArray, List.getElem?_cons_succ, List.getElem?_cons_zero]; exact rfl
                      · intro l w'; rw [hSSs, hSSs]
                      · rfl
                      · intro w' hA; clear hA; go_simp; try with_reducible rfl
                      clear hCl hHeld
                      intro hCl hHeld
                      simp only [List.setIfInBounds_toArray, List.set_cons_zero, List.set_cons_succ] at hCl hHeld
                      try simp only [Act.put]
                      try simp only [List.setIfInBounds_toArray, List.set_cons_zero, List.set_cons_succ]
                      refine reg_takeG 16 ?_ ?_ ?_ (by kernel_rfl) (by kernel_rfl) (by kernel_rfl) (fun _ _ _ h => h) ?_ ?_ ?_ hCl hHeld ?_
                      rotate_left 2
                      · simp only [List.getElem?_toArray, List.getElem?_cons_succ, List.getElem?_cons_zero]; exact rfl
                      · intro l w'; rw [hSSs, hSSs]
                      · rfl
                      · intro w' hA; clear hA; go_simp; try with_reducible rfl
                      clear hCl hHeld
                      intro hCl hHeld
                      simp only [List.setIfInBounds_toArray, List.set_cons_zero, List.set_cons_succ] at hCl hHeld
                      try simp only [Act.put]
                      try simp only [List.setIfInBounds_toArray, List.set_cons_zero, List.set_cons_succ]
                      refine reg_takeG 17 ?_ ?_ ?_ (by kernel_rfl) (by kernel_rfl) (by kernel_rfl) (fun _ _ _ h => h) ?_ ?_ ?_ hCl hHeld ?_
                      rotate_left 2
                      · simp only [List.getElem?_toArray, List.getElem?_cons_succ, List.getElem?_cons_zero]; exact rfl
                      · intro l w'; rw [hSSs, hSSs]
                      · rfl
                      · intro w' hA; obtain ⟨l, hl, hi, hSl⟩ := hA; have hSl := (hSSs _ _).1 hSl; obtain ⟨hz0, hz1⟩ := hSl; go_simp; try with_reducible rfl
                      clear hCl hHeld
                      intro hCl hHeld
                      simp only [List.setIfInBounds_toArray, List.set_cons_zero, List.set_cons_succ] at hCl hHeld
                      try simp only [Act.put]
                      try simp only [List.setIfInBounds_toArray, List.set_cons_zero, List.set_cons_succ]
                      refine reg_takeG 18 ?_ ?_ ?_ (by kernel_rfl) (by kernel_rfl) (by kernel_rfl) (fun _ _ _ h => h) ?_ ?_ ?_ hCl hHeld ?_
                      rotate_left 2
                      · simp only [List.getElem?_toArray, List.getElem?_cons_succ, List.getElem?_cons_zero]; exact rfl
                      · intro l w'; rw [hSSs, hSSs]
                      · rfl
                      · intro w' hA; clear hA; go_simp; try with_reducible rfl
                      clear hCl hHeld
                      intro hCl hHeld
                      simp only [List.setIfInBounds_toArray, List.set_cons_zero, List.set_cons_succ] at hCl hHeld
                      try simp only [Act.put]
                      try simp only [List.setIfInBounds_toArray, List.set_cons_zero, List.set_cons_succ]
                      refine reg_takeG 19 ?_ ?_ ?_ (by kernel_rfl) (by kernel_rfl) (by kernel_rfl) (fun _ _ _ h => h) ?_ ?_ ?_ hCl hHeld ?_
                      rotate_left 2
                      · simp only [List.getElem?_toArray, List.getElem?_cons_succ, List.getElem?_cons_zero]; exact rfl
                      · intro l w'; rw [hSSs, hSSs]
                      · rfl
                      · intro w' hA; clear hA; go_simp; try with_reducible rfl
                      clear hCl hHeld
                      intro hCl hHeld
                      simp only [List.setIfInBounds_toArray, List.set_cons_zero, List.set_cons_succ] at hCl hHeld
                      try simp only [Act.put]
                      try simp only [List.setIfInBounds_toArray, List.set_cons_zero, List.set_cons_succ]
                      clear hCl hHeld
                      refine reg_callG 20 ?_ (by kernel_rfl) ?_ (fun K hK => ?_)
                      rotate_left 1
                      · simp only [List.getElem?_toArray, List.getElem?_cons_succ, List.getElem?_cons_zero]; exact rfl
                      go_simp
                      clear hx0 hx1 hup
                      refine hK.out _ _ ((hSSs _ _).2 ⟨hy0, hy1⟩) ?_
                      clear hK K
                      try simp only [Act.put]
                      try simp only [List.setIfInBounds_toArray, List.set_cons_zero, List.set_cons_succ]
                      refine wpAnyG_done (by kernel_rfl) ?_ _
                      refine NoPanic.normal ?_
                      clear hSSs SSs
                      go_wp2
                      have hnn := HNN.out
                      refine ⟨⟨_, _, _, _, _, _, _, _, _, _, _, _, _, _, _, _, _, _, _, _, _, _, _, _, _, _, _, _, _, _, _, _, _, _, ?_, rfl⟩, by simp [intOf]⟩
                      exact ⟨1 + 1, by omega, by go_num, congrArg (Value.int .i64) (by omega), ⟨_, FIN.out.1⟩, FIN.out.2.1, FIN.out.2.2⟩
                    · obtain ⟨mn, hmn⟩ : ∃ mn : Int, (if (x : Int) < (z : Int) then (x : Int) else (z : Int)) = mn := ⟨_, rfl⟩
                      obtain ⟨mx, hmx⟩ : ∃ mx : Int, (if (x : Int) > (z : Int) then (x : Int) else (z : Int)) = mx := ⟨_, rfl⟩
                      have bmn : -1000000 ≤ mn ∧ mn ≤ 1000000 := by rw [← hmn]; split <;> omega
                      have bmx : -1000000 ≤ mx ∧ mx ≤ 1000000 := by rw [← hmx]; split <;> omega
                      have hmin : ∀ w : World, Sem.run Try.prog (Builtin.min_ #[3, 3] 3 #[.int .i64 (z : Int), .int .i64 (x : Int)]) w = Result.ok (Value.int .i64 mn) w := fun w => by rw [run_min_int2, hmn]
                      have hmax : ∀ w : World, Sem.run Try.prog (Builtin.max_ #[3, 3] 3 #[.int .i64 (z : Int), .int .i64 (x : Int)]) w = Result.ok (Value.int .i64 mx) w := fun w => by rw [run_max_int2, hmx]
                      have hwk : (IntKind.i64.wrap 3).tmod 3 = 0 := by decide
                      obtain ⟨wm, F4, hup, hT4, hF4⟩ := fault_store HF3.out bmn bmx
                      have hx0 := HBX3.out.c 2 _ rfl; have hx1 := HBX3.out.c 0 _ rfl
                      have hbx4 := HBX3.out.turned hT4 (by omega)
                      have hbw4 : Below fb w7 wm := Below.turned HBW3.out hT4 (Nat.le_refl _)
                      have hy0 := hbx4.c 2 _ rfl; have hy1 := hbx4.c 0 _ rfl
                      have FIN := Lib.hid (And.intro hF4 (And.intro hbx4 hbw4))
                      clear hmn hmx bmn bmx hT4 hF4 hbx4 hbw4
                      go_wp2_with fail
                      obtain ⟨SSs, hSSs⟩ : ∃ S : Array Bool → World → Prop, ∀ l w', S l w' ↔ ((w'.cell? ⟨tb, 2, none⟩ = some (.int .i64 (z : Int))) ∧ (w'.cell? ⟨tb, 0, none⟩ = some (.int .i64 (x : Int)))) := ⟨_, fun _ _ => Iff.rfl⟩
                      refine wp_region_noPanic ?_
                      refine wp_region_G SSs 21 #[false, false, false, false, false, false, false, false, false, false, false, false, false, false, false, false, false, false, false, false, false] (by kernel_rfl) (by kernel_rfl) (by kernel_rfl) ((hSSs _ _).2 ⟨hx0, hx1⟩) (fun hCl hHeld => ?_)
                      generalize wr.drew = wd at *
                      refine reg_takeG 0 ?_ ?_ ?_ (by kernel_rfl) (by kernel_rfl) (by kernel_rfl) (fun _ _ _ h => h) ?_ ?_ ?_ hCl hHeld ?_
                      rotate_left 2
                      · simp only [List.getElem?_toArray, List.getElem?_cons_zero]; exact rfl
                      · intro l w'; rw [hSSs, hSSs]
                      · rfl
                      · intro w' hA; clear hA; go_simp; try with_reducible rfl
                      clear hCl hHeld
                      intro hCl hHeld
                      simp only [List.setIfInBounds_toArray, List.set_cons_zero] at hCl hHeld
                      try simp only [Act.put]
                      try simp only [List.setIfInBounds_toArray, List.set_cons_zero, List.set_cons_succ]
                      refine reg_takeG 1 ?_ ?_ ?_ (by kernel_rfl) (by kernel_rfl) (by kernel_rfl) (fun _ _ _ h => h) ?_ ?_ ?_ hCl hHeld ?_
                      rotate_left 2
                      · simp only [List.getElem?_toArray, List.getElem?_cons_succ, List.getElem?_cons_zero]; exact rfl
                      · intro l w'; rw [hSSs, hSSs]
                      · rfl
                      · intro w' hA; clear hA; go_simp; try with_reducible rfl
                      clear hCl hHeld
                      intro hCl hHeld
                      simp only [List.setIfInBounds_toArray, List.set_cons_zero, List.set_cons_succ] at hCl hHeld
                      try simp only [Act.put]
                      try simp only [List.setIfInBounds_toArray, List.set_cons_zero, List.set_cons_succ]
                      refine reg_takeG 2 ?_ ?_ ?_ (by kernel_rfl) (by kernel_rfl) (by kernel_rfl) (fun _ _ _ h => h) ?_ ?_ ?_ hCl hHeld ?_
                      rotate_left 2
                      · simp only [List.getElem?_toArray, List.getElem?_cons_succ, List.getElem?_cons_zero]; exact rfl
                      · intro l w'; rw [hSSs, hSSs]
                      · rfl
                      · intro w' hA; clear hA; go_simp; try with_reducible rfl
                      clear hCl hHeld
                      intro hCl hHeld
                      simp only [List.setIfInBounds_toArray, List.set_cons_zero, List.set_cons_succ] at hCl hHeld
                      try simp only [Act.put]
                      try simp only [List.setIfInBounds_toArray, List.set_cons_zero, List.set_cons_succ]
                      refine reg_takeG 3 ?_ ?_ ?_ (by kernel_rfl) (by kernel_rfl) (by kernel_rfl) (fun _ _ _ h => h) ?_ ?_ ?_ hCl hHeld ?_
                      rotate_left 2
                      · simp only [List.getElem?_toArray, List.getElem?_cons_succ, List.getElem?_cons_zero]; exact rfl
                      · intro l w'; rw [hSSs, hSSs]
                      · rfl
                      · intro w' hA; obtain ⟨l, hl, hi, hSl⟩ := hA; have hSl := (hSSs _ _).1 hSl; obtain ⟨hz0, hz1⟩ := hSl; go_simp; try with_reducible rfl
                      clear hCl hHeld
                      intro hCl hHeld
                      simp only [List.setIfInBounds_toArray, List.set_cons_zero, List.set_cons_succ] at hCl hHeld
                      try simp only [Act.put]
                      try simp only [List.setIfInBounds_toArray, List.set_cons_zero, List.set_cons_succ]
                      refine reg_takeG 4 ?_ ?_ ?_ (by kernel_rfl) (by kernel_rfl) (by kernel_rfl) (fun _ _ _ h => h) ?_ ?_ ?_ hCl hHeld ?_
                      rotate_left 2
                      · simp only [List.getElem?_toArray, List.getElem?_cons_succ, List.getElem?_cons_zero]; exact rfl
                      · intro l w'; rw [hSSs, hSSs]
                      · rfl
                      · intro w' hA; clear hA; go_simp; try with_reducible rfl
                      clear hCl hHeld
                      intro hCl hHeld
                      simp only [List.setIfInBounds_toArray, List.set_cons_zero, List.set_cons_succ] at hCl hHeld
                      try simp only [Act.put]
                      try simp only [List.setIfInBounds_toArray, List.set_cons_zero, List.set_cons_succ]
                      refine reg_takeG 5 ?_ ?_ ?_ (by kernel_rfl) (by kernel_rfl) (by kernel_rfl) (fun _ _ _ h => h) ?_ ?_ ?_ hCl hHeld ?_
                      rotate_left 2
                      · simp only [List.getElem?_toArray, List.getElem?_cons_succ, List.getElem?_cons_zero]; exact rfl
                      · intro l w'; rw [hSSs, hSSs]
                      · rfl
                      · intro w' hA; clear hA; go_simp; try with_reducible rfl
                      clear hCl hHeld
                      intro hCl hHeld
                      simp only [List.setIfInBounds_toArray, List.set_cons_zero, List.set_cons_succ] at hCl hHeld
                      try simp only [Act.put]
                      try simp only [List.setIfInBounds_toArray, List.set_cons_zero, List.set_cons_succ]
                      refine reg_takeG 6 ?_ ?_ ?_ (by kernel_rfl) (by kernel_rfl) (by kernel_rfl) (fun _ _ _ h => h) ?_ ?_ ?_ hCl hHeld ?_
                      rotate_left 2
                      · simp only [List.getElem?_toArray, List.getElem?_cons_succ, List.getElem?_cons_zero]; exact rfl
                      · intro l w'; rw [hSSs, hSSs]
                      · rfl
                      · intro w' hA; clear hA; go_simp; try with_reducible rfl
                      clear hCl hHeld
                      intro hCl hHeld
                      simp only [List.setIfInBounds_toArray, List.set_cons_zero, List.set_cons_succ] at hCl hHeld
                      try simp only [Act.put]
                      try simp only [List.setIfInBounds_toArray, List.set_cons_zero, List.set_cons_succ]
                      refine reg_takeG 7 ?_ ?_ ?_ (by kernel_rfl) (by kernel_rfl) (by kernel_rfl) (fun _ _ _ h => h) ?_ ?_ ?_ hCl hHeld ?_
                      rotate_left 2
                      · simp only [List.getElem?_toArray, List.getElem?_cons_succ, List.getElem?_cons_zero]; exact rfl
                      · intro l w'; rw [hSSs, hSSs]
                      · rfl
                      · intro w' hA; clear hA; go_simp; try with_reducible rfl
                      clear hCl hHeld
                      intro hCl hHeld
                      simp only [List.setIfInBounds_toArray, List.set_cons_zero, List.set_cons_succ] at hCl hHeld
                      try simp only [Act.put]
                      try simp only [List.setIfInBounds_toArray, List.set_cons_zero, List.set_cons_succ]
                      refine reg_takeG 8 ?_ ?_ ?_ (by kernel_rfl) (by kernel_rfl) (by kernel_rfl) (fun _ _ _ h => h) ?_ ?_ ?_ hCl hHeld ?_
                      rotate_left 2
                      · simp only [List.getElem?_toArray, List.getElem?_cons_succ, List.getElem?_cons_zero]; exact rfl
                      · intro l w'; rw [hSSs, hSSs]
                      · rfl
                      · intro w' hA; obtain ⟨l, hl, hi, hSl⟩ := hA; have hSl := (hSSs _ _).1 hSl; obtain ⟨hz0, hz1⟩ := hSl; go_simp; try with_reducible rfl
                      clear hCl hHeld
                      intro hCl hHeld
                      simp only [List.setIfInBounds_toArray, List.set_cons_zero, List.set_cons_succ] at hCl hHeld
                      try simp only [Act.put]
                      try simp only [List.setIfInBounds_toArray, List.set_cons_zero, List.set_cons_succ]
                      refine reg_takeG 9 ?_ ?_ ?_ (by kernel_rfl) (by kernel_rfl) (by kernel_rfl) (fun _ _ _ h => h) ?_ ?_ ?_ hCl hHeld ?_
                      rotate_left 2
                      · simp only [List.getElem?_toArray, List.getElem?_cons_succ, List.getElem?_cons_zero]; exact rfl
                      · intro l w'; rw [hSSs, hSSs]
                      · rfl
                      · intro w' hA; clear hA; go_simp; try with_reducible rfl
                      clear hCl hHeld
                      intro hCl hHeld
                      simp only [List.setIfInBounds_toArray, List.set_cons_zero, List.set_cons_succ] at hCl hHeld
                      try simp only [Act.put]
                      try simp only [List.setIfInBounds_toArray, List.set_cons_zero, List.set_cons_succ]
                      refine reg_takeG 10 ?_ ?_ ?_ (by kernel_rfl) (by kernel_rfl) (by kernel_rfl) (fun _ _ _ h => h) ?_ ?_ ?_ hCl hHeld ?_
                      rotate_left 2
                      · simp only [List.getElem?_toArray, List.getElem?_cons_succ, List.getElem?_cons_zero]; exact rfl
                      · intro l w'; rw [hSSs, hSSs]
                      · rfl
                      · intro w' hA; clear hA; go_simp; try with_reducible rfl
                      clear hCl hHeld
                      intro hCl hHeld
                      simp only [List.setIfInBounds_toArray, List.set_cons_zero, List.set_cons_succ] at hCl hHeld
                      try simp only [Act.put]
                      try simp only [List.setIfInBounds_toArray, List.set_cons_zero, List.set_cons_succ]
                      refine reg_takeG 11 ?_ ?_ ?_ (by kernel_rfl) (by kernel_rfl) (by kernel_rfl) (fun _ _ _ h => h) ?_ ?_ ?_ hCl hHeld ?_
                      rotate_left 2
                      · simp only [List.getElem?_toArray, List.getElem?_cons_succ, List.getElem?_cons_zero]; exact rfl
                      · intro l w'; rw [hSSs, hSSs]
                      · rfl
                      · intro w' hA; clear hA; go_simp; try with_reducible rfl
                      clear hCl hHeld
                      intro hCl hHeld
                      simp only [List.setIfInBounds_toArray, List.set_cons_zero, List.set_cons_succ] at hCl hHeld
                      try simp only [Act.put]
                      try simp only [List.setIfInBounds_toArray, List.set_cons_zero, List.set_cons_succ]
                      refine reg_takeG 12 ?_ ?_ ?_ (by kernel_rfl) (by kernel_rfl) (by kernel_rfl) (fun _ _ _ h => h) ?_ ?_ ?_ hCl hHeld ?_
                      rotate_left 2
                      · simp only [List.getElem?_toArray, List.getElem?_cons_succ, List.getElem?_cons_zero]; exact rfl
                      · intro l w'; rw [hSSs, hSSs]
                      · rfl
                      · intro w' hA; obtain ⟨l, hl, hi, hSl⟩ := hA; have hSl := (hSSs _ _).1 hSl; obtain ⟨hz0, hz1⟩ := hSl; go_simp; try with_reducible rfl
                      clear hCl hHeld
                      intro hCl hHeld
                      simp only [List.setIfInBounds_toArray, List.set_cons_zero, List.set_cons_succ] at hCl hHeld
                      try simp only [Act.put]
                      try simp only [List.setIfInBounds_toArray, List.set_cons_zero, List.set_cons_succ]
                      refine reg_takeG 13 ?_ ?_ ?_ (by kernel_rfl) (by kernel_rfl) (by kernel_rfl) (fun _ _ _ h => h) ?_ ?_ ?_ hCl hHeld ?_
                      rotate_left 2
                      · simp only [List.getElem?_toArray, List.getElem?_cons_succ, List.getElem?_cons_zero]; exact rfl
                      · intro l w'; rw [hSSs, hSSs]
                      · rfl
                      · intro w' hA; clear hA; go_simp; try with_reducible rfl
                      clear hCl hHeld
                      intro hCl hHeld
                      simp only [List.setIfInBounds_toArray, List.set_cons_zero, List.set_cons_succ] at hCl hHeld
                      try simp only [Act.put]
                      try simp only [List.setIfInBounds_toArray, List.set_cons_zero, List.set_cons_succ]
                      refine reg_takeG 14 ?_ ?_ ?_ (by kernel_rfl) (by kernel_rfl) (by kernel_rfl) (fun _ _ _ h => h) ?_ ?_ ?_ hCl hHeld ?_
                      rotate_left 2
                      · simp only [List.getElem?_toArray, List.getElem?_cons_succ, List.getElem?_cons_zero]; exact rfl
                      · intro l w'; rw [hSSs, hSSs]
                      · rfl
                      · intro w' hA; clear hA; go_simp; try with_reducible rfl
                      clear hCl hHeld
                      intro hCl hHeld
                      simp only [List.setIfInBounds_toArray, List.set_cons_zero, List.set_cons_succ] at hCl hHeld
                      try simp only [Act.put]
                      try simp only [List.setIfInBounds_toArray, List.set_cons_zero, List.set_cons_succ]
                      refine reg_takeG 15 ?_ ?_ ?_ (by kernel_rfl) (by kernel_rfl) (by kernel_rfl) (fun _ _ _ h => h) ?_ ?_ ?_ hCl hHeld ?_
                      rotate_left 2
                      · simp only [List.getElem?_toArray, List.getElem?_cons_succ, List.getElem?_cons_zero]; exact rfl
                      · intro l w'; rw [hSSs, hSSs]
                      · rfl
                      · intro w' hA; clear hA; go_simp; try with_reducible rfl
                      clear hCl hHeld
                      intro hCl hHeld
                      simp only [List.setIfInBounds_toArray, List.set_cons_zero, List.set_cons_succ] at hCl hHeld
                      try simp only [Act.put]
                      try simp only [List.setIfInBounds_toArray, List.set_cons_zero, List.set_cons_succ]
                      refine reg_takeG 16 ?_ ?_ ?_ (by kernel_rfl) (by kernel_rfl) (by kernel_rfl) (fun _ _ _ h => h) ?_ ?_ ?_ hCl hHeld ?_
                      rotate_left 2
                      · simp only [List.getElem?_toArray, List.getElem?_cons_succ, List.getElem?_cons_zero]; exact rfl
                      · intro l w'; rw [hSSs, hSSs]
                      · rfl
                      · intro w' hA; clear hA; go_simp; try with_reducible rfl
                      clear hCl hHeld
                      intro hCl hHeld
                      simp only [List.setIfInBounds_toArray, List.set_cons_zero, List.set_cons_succ] at hCl hHeld
                      try simp only [Act.put]
                      try simp only [List.setIfInBounds_toArray, List.set_cons_zero, List.set_cons_succ]
                      refine reg_takeG 17 ?_ ?_ ?_ (by kernel_rfl) (by kernel_rfl) (by kernel_rfl) (fun _ _ _ h => h) ?_ ?_ ?_ hCl hHeld ?_
                      rotate_left 2
                      · simp only [List.getElem?_toArray, List.getElem?_cons_succ, List.getElem?_cons_zero]; exact rfl
                      · intro l w'; rw [hSSs, hSSs]
                      · rfl
                      · intro w' hA; obtain ⟨l, hl, hi, hSl⟩ := hA; have hSl := (hSSs _ _).1 hSl; obtain ⟨hz0, hz1⟩ := hSl; go_simp; try with_reducible rfl
                      clear hCl hHeld
                      intro hCl hHeld
                      simp only [List.setIfInBounds_toArray, List.set_cons_zero, List.set_cons_succ] at hCl hHeld
                      try simp only [Act.put]
                      try simp only [List.setIfInBounds_toArray, List.set_cons_zero, List.set_cons_succ]
                      refine reg_takeG 18 ?_ ?_ ?_ (by kernel_rfl) (by kernel_rfl) (by kernel_rfl) (fun _ _ _ h => h) ?_ ?_ ?_ hCl hHeld ?_
                      rotate_left 2
                      · simp only [List.getElem?_toArray, List.getElem?_cons_succ, List.getElem?_cons_zero]; exact rfl
                      · intro l w'; rw [hSSs, hSSs]
                      · rfl
                      · intro w' hA; clear hA; go_simp; try with_reducible rfl
                      clear hCl hHeld
                      intro hCl hHeld
                      simp only [List.setIfInBounds_toArray, List.set_cons_zero, List.set_cons_succ] at hCl hHeld
                      try simp only [Act.put]
                      try simp only [List.setIfInBounds_toArray, List.set_cons_zero, List.set_cons_succ]
                      refine reg_takeG 19 ?_ ?_ ?_ (by kernel_rfl) (by kernel_rfl) (by kernel_rfl) (fun _ _ _ h => h) ?_ ?_ ?_ hCl hHeld ?_
                      rotate_left 2
                      · simp only [List.getElem?_toArray, List.getElem?_cons_succ, List.getElem?_cons_zero]; exact rfl
                      · intro l w'; rw [hSSs, hSSs]
                      · rfl
                      · intro w' hA; clear hA; go_simp; try with_reducible rfl
                      clear hCl hHeld
                      intro hCl hHeld
                      simp only [List.setIfInBounds_toArray, List.set_cons_zero, List.set_cons_succ] at hCl hHeld
                      try simp only [Act.put]
                      try simp only [List.setIfInBounds_toArray, List.set_cons_zero, List.set_cons_succ]
                      clear hCl hHeld
                      refine reg_callG 20 ?_ (by kernel_rfl) ?_ (fun K hK => ?_)
                      rotate_left 1
                      · simp only [List.getElem?_toArray, List.getElem?_cons_succ, List.getElem?_cons_zero]; exact rfl
                      go_simp
                      clear hx0 hx1 hup
                      refine hK.out _ _ ((hSSs _ _).2 ⟨hy0, hy1⟩) ?_
                      clear hK K
                      try simp only [Act.put]
                      try simp only [List.setIfInBounds_toArray, List.set_cons_zero, List.set_cons_succ]
                      refine wpAnyG_done (by kernel_rfl) ?_ _
                      refine NoPanic.normal ?_
                      clear hSSs SSs
                      go_wp2
                      have hnn := HNN.out
                      refine ⟨⟨_, _, _, _, _, _, _, _, _, _, _, _, _, _, _, _, _, _, _, _, _, _, _, _, _, _, _, _, _, _, _, _, _, _, ?_, rfl⟩, by simp [intOf]⟩
                      exact ⟨2 + 1, by omega, by go_num, congrArg (Value.int .i64) (by omega), ⟨_, FIN.out.1⟩, FIN.out.2.1, FIN.out.2.2⟩
                · obtain rfl : i = 3 := by omega
                  have FIN := Lib.hid (And.intro hF2 hbw)
                  clear hF2 hbw hbx
                  go_wp2
                  exact ⟨⟨j + 1, by omega, by go_num, congrArg (Value.int .i64) (by omega), ⟨_, FIN.out.1⟩, FIN.out.2⟩, by simp [intOf]; omega⟩
            · obtain rfl : j = 4 := by omega
              have hgl := HM.out.len
              obtain ⟨⟨ta, tb, tc⟩, h0⟩ : ∃ v, (gridT 2 1 bn)[0]? = some v := ⟨_, List.getElem?_eq_getElem (by omega)⟩
              have hz := HM.out.one _ (List.mem_of_getElem? h0)
              simp only [] at hz
              have hb7 : Below w7.heap.size w7 wr := by rw [HFB.out]; exact hbw
              have hpr : RowN wr (w.heap.size + 1) 26 2 (.slice (some ⟨gp, 0, none⟩) 6 gpc) 6 (ptsCells (gridP 2 1)) := (HROW.out.below HBT.out).below hb7
              have htr := HTR.out.below hb7
              have hbu := Build_any F (gridT 2 1 bn) ta tb tc fb gt 4 gtc gp 6 gpc (gridP 2 1) wr OK.out.good h0 hz (by omega) (by omega) OK.out.pts htr hF rfl (by omega) (by omega) HPS.out hpr.ptsC HM.out.some_ (by have := HM.out.few; omega) HM.out.ends
              have HBU := Lib.hid hbu; have HTRR := Lib.hid htr
              have HBWR := Lib.hid (HBW.out.trans ((HBT.out.trans (hb7.mono HBT.out.size)).mono HBW.out.size))
              have hgt := HGTL.out.1; have hsz5 := HBW.out.size
              clear hbu htr hpr hb7 hF hbw hz h0 hgl
              go_wp2_with fail
              refine HBU.out.mono ?_
              rintro e w9 ⟨mb, rfl, hbe, hb9⟩
              have hbs := HBWR.out.size
              have FIN := Lib.hid (And.intro (hbe.low hbs) (And.intro (HTRR.out.below hb9) (HBWR.out.trans (hb9.mono hbs))))
              clear hbe hb9
              go_wp2
              go_ret2
              exact ⟨mb, gt, gtc, F, rfl, FIN.out.1, FIN.out.2.1, by omega, FIN.out.2.2⟩
end Go.Proofs.Ytaedaknkpfeipaa
