/- MeshGrids: the walk. Written by tools/mesh22.py. -/
import Derived.Test.YtecnnpkpgbbfkaaPartf
import Derived.Test.YtecnnpkpgbbfkaaPartq
import Derived.Test.YtecnnpkpgbbfkaaParts
import Derived.Test.YtecnnpkpgbbfkaaPartp
import Derived.Maps.OwnIn
import Derived.OwnWalkIn
import Derived.Test.YtecnnpkpgbbfkaaPartn
namespace Go.Proofs.Ytecnnpkpgbbfkaa
open Go.RowKit Go.MagM Go.Shelf
attribute [local go_sem] Oper.semAt_some
set_option maxRecDepth 100000 in
set_option maxHeartbeats 16000000 in
theorem MeshGrids_walk (w0 h0 b0 f0 : Int) (w : World) :
  Calls Try.prog 3 #[.agg #[.int .i64 w0, .int .i64 h0], .int .u32 b0, .int .u32 f0] w fun e w' => e = .returned (.bool true) ∧ Below w.heap.size w w' := by
 obtain ⟨w1, hw1, pz, hb1, hs1⟩ := new_box w _ rfl [.int .i64 w0, .int .i64 h0] 22
 have PZ := Lib.hid pz; have HB1 := Lib.hid hb1
 have HF := Lib.hid (fit9_any w1)
 clear pz hb1
 refine (callsIn_wide (n := 20)).1 (callsIn_of_wp_marks (F := Fence.wide) (n := 20) Try.func3 rfl trivial ?_ rfl)
 simp only [Try.ntmps3, List.size_toArray, List.length_cons, List.length_nil, Nat.reduceAdd, Nat.reduceSub, Array.replicate_succ, Array.replicate_zero, List.push_toArray, List.append_toArray, List.nil_append, List.cons_append]
 rw [wpIn_wide]
 go_wp2_with fail
 refine HF.out.mono ?_
 rintro e w3 ⟨rfl, hb13⟩
 have hz3 := PZ.out.below hb13
 have z0 := hz3.c 0 _ rfl; have z1 := hz3.c 1 _ rfl
 have HB3 := Lib.hid (HB1.out.trans (hb13.mono HB1.out.size))
 have HG := Lib.hid (Grid_any w0 h0 b0 f0 w3)
 clear hz3 hb13
 go_wp2_with fail
 refine HG.out.mono ?_
 rintro e w4 ⟨mb, pb, pc, tb, tc, g, gn, gc, gW, gH, bn, F, Bd, S, rfl, hgn, hgi, hb4⟩
 obtain ⟨hN4, hN9, hS4, hS16⟩ := hgi.sizes
 have HSO := Lib.hid (show ∀ w', Below w4.heap.size w4 w' → Calls Try.prog 7 #[.pointer (some ⟨mb, 0, none⟩)] w' fun e w'' => e = .returned (.bool true) ∧ Below w'.heap.size w' w'' from fun w' hb => by
  have hg := hgi.below hb
  exact Sound_any true w' hg.read hg.inP (fun e => by rw [e] at hN4; simp at hN4) hg.sound)
 have hge := hgi.edges
 have HGI4 := Lib.hid hgi; have HB4 := Lib.hid (HB3.out.trans (hb4.mono HB3.out.size)); have HGN := Lib.hid hgn; have HGE := Lib.hid hge
 have hf0 := (Below.refl w4.heap.size w4).drew'
 clear hgi hb4 z0 z1 hgn hge
 go_wp2_with fail
 refine (HSO.out _ (Below.refl _ _)).mono ?_
 rintro e w5 ⟨rfl, hb45⟩
 have HGI5 := Lib.hid (HGI4.out.below hb45)
 have HB5 := Lib.hid (HB4.out.trans (hb45.mono HB4.out.size))
 obtain ⟨nb, hnb⟩ : ∃ x, w5.heap.size = x := ⟨_, rfl⟩
 obtain ⟨w6, hw6, pn6, hb6, hs6⟩ := new_box w5 _ rfl [.int .i64 0] 3
 have bn6 : Boxed w6 nb 3 (.int .i64 0) := by rw [← hw6, ← hnb]; exact Boxed.new w5 _ _
 have hcn := bn6.cell; have hfn := bn6.frozen
 obtain ⟨w7, hw7⟩ : ∃ x, w6.setCell ⟨nb, 0, none⟩ (.int .i64 0) = x := ⟨_, rfl⟩
 have bn7 : Boxed w7 nb 3 (.int .i64 0) := by rw [← hw7]; exact bn6.set _
 have hs7 : w7.heap.size = w6.heap.size := by rw [← hw7]; simp [World.setCell]
 have hb57 : Below w5.heap.size w5 w7 := by rw [← hw7]; exact hb6.setCell (p := ⟨nb, 0, none⟩) (by simp only []; omega) _
 have hn7 : nb < w7.heap.size := by omega
 have hn7' : w7.heap.size ≤ nb + 1 := by omega
 have HGI7 := Lib.hid (HGI5.out.below hb57)
 have HAL := Lib.hid (All_any (some ⟨mb, 0, none⟩) w7)
 have HN7 := Lib.hid bn7; have HB57 := Lib.hid hb57; have HNB := Lib.hid hnb
 clear hf0 hb45 hb6 hs6 pn6 bn6 bn7 hs7 hb57
 go_wp2_with fail
 refine HAL.out.mono ?_
 rintro e W1 ⟨rfl, hw1'⟩
 have hb71 : Below w7.heap.size w7 W1 := by rw [← hw1']; exact (Below.refl _ _).alloc (Nat.le_refl _) _
 have hsz1 : W1.heap.size = w7.heap.size + 1 := by rw [← hw1']; simp
 have ba1 : Boxed W1 w7.heap.size 25 (.pointer (some ⟨mb, 0, none⟩)) := by rw [← hw1']; exact Boxed.new w7 _ _
 obtain ⟨ab, hab⟩ : ∃ x, w7.heap.size = x := ⟨_, rfl⟩
 rw [hab] at ba1 hn7 hn7' ⊢
 have hb51 := HB57.out.trans (hb71.mono HB57.out.size)
 have hg1 := HGI5.out.below hb51
 have bn1 : Boxed W1 nb 3 (.int .i64 0) := (hb71.block nb (by omega)).trans HN7.out
 have ha1 : ab < W1.heap.size := by omega
 have ha1' : W1.heap.size ≤ ab + 1 := by omega
 have hm5 : mb < nb := by have := HGI5.out.mesh.low.2.1; have := HNB.out; omega
 have hp5 : pb < nb := by have := HGI5.out.mesh.low.2.2.1; have := HNB.out; omega
 have ht5 : tb < nb := by have := (HGI5.out.mesh.row.lt tb rfl).2; have := HNB.out; omega
 have hin1 : MeshIn (EPb W1.heap.size nb) mb pb (some ⟨tb, 0, none⟩) := ⟨⟨by omega, by omega⟩, ⟨by omega, by omega⟩, fun b hb => by cases hb; exact ⟨by omega, by omega⟩⟩
 have hlt1 : ∀ b, EPb W1.heap.size nb b → b < W1.heap.size := fun _ h => h.1
 have hpa : EPb W1.heap.size nb ab := ⟨ha1, by omega⟩
 have h5n : w5.heap.size ≤ nb := by have := HNB.out; omega
 have HG5 := HGI5
 have hnt : (gridT gW gH bn).length = gn := HGN.out.symm
 have hcnt := HGE.out.count
 rw [hnt] at hcnt
 clear hw1' hsz1 hab hb71 hcn hfn HGI4 hnb
 go_wp2
 rw [← wpIn_wide (n := 20)]
 refine range_start9 (fun a0_ ha0 => ?_)
 refine wpIn_rangeFunc_ownH rfl (by omega) (gf := 25) (lb := #[.pointer (some ⟨ab, 0, none⟩)]) (by rw [ha0]; rfl) trivial (enters_of Try.func25 (by kernel_rfl) rfl)
  (all_stops 19 (by omega) ab (EPb W1.heap.size nb) W1 hlt1 hg1.read hin1 ba1.cell hpa) (fun h k => KeepB.trans h k) ?kb (Below.refl _ _) (fun _ => rfl)
  (fun (pre : List (RA S)) W => KeepB (EPb W1.heap.size nb) W1 W ∧ (Boxed W nb 3 (.int .i64 (pre.length : Int)) ∧ Below w5.heap.size w5 W))
  (fun _ _ _ => False)
  (OwnFrom.and (keepB_own hlt1) (OwnFrom.and (Own.from (boxed_own nb 3 (fun pre : List (RA S) => Value.int .i64 (pre.length : Int))) _) (ownFrom_below (Nat.le_refl _) (by omega))))
  (fun _ _ _ _ _ h _ _ => h)
  ⟨KeepB.refl _ _, bn1, hb51⟩
  (fun x a' W => a' = { tmps := (#[51, 52].zip (encA x)).foldl (fun t (p, v) => t.setIfInBounds p v) a0_.tmps, defers := [] })
  ?own ?assign ?body ?done ?stop
 case kb =>
  intro W l o o' hl _ _ _ b hb
  exact World.putObj_heap_other (fun e => by have := hlt1 b hb; omega)
 case own =>
  intro x a' s A B row hs _ _
  exact hs
 case assign =>
  intro l pre x W K hI hK
  rw [ha0] at hK ⊢
  obtain ⟨⟨y, U⟩, hy1, hy2⟩ := x
  dsimp only [encA, triV] at hK ⊢
  gi_wp2
  exact hK _ _ (KeepsFrom.refl _ _) (KeepB.refl _ _) hI (by kernel_rfl)
 case body =>
  as_aux_lemma =>
   rintro l pre x a' W hWl - ⟨hKB, hbx, hBW⟩ rfl hlen
   obtain ⟨⟨y, U⟩, hy1, hy2⟩ := x
   have hlen4 : pre.length < S.length := hlen
   have hln : ∀ z : RA S, ((pre ++ [z]).length : Int) = (pre.length : Int) + 1 := fun z => by simp
   have HLN := Lib.hid hln
   obtain ⟨k, hk⟩ : ∃ k, pre.length = k := ⟨_, rfl⟩
   rw [hk] at hbx hlen4 HLN
   have hk16 : k < 16 := by omega
   obtain ⟨W2, hW2⟩ : ∃ x, W.setCell ⟨nb, 0, none⟩ (.int .i64 ((k : Int) + 1)) = x := ⟨_, rfl⟩
   have hnk : ¬ EPb W1.heap.size nb nb := fun h => h.2 rfl
   have FIN := Lib.hid (show KeepsFrom W1.heap.size W W2 ∧ KeepB (EPb W1.heap.size nb) W W2 ∧ KeepB (EPb W1.heap.size nb) W1 W2 ∧ Boxed W2 nb 3 (.int .i64 ((k : Int) + 1)) ∧ Below w5.heap.size w5 W2 by
    rw [← hW2]
    exact ⟨(KeepsOthers.setCell _ _ _).from _, keepB_set9 (KeepB.refl _ _) hnk _, keepB_set9 hKB hnk _, hbx.set _, hBW.setCell (p := ⟨nb, 0, none⟩) (by simp only []; omega) _⟩)
   have cb := hbx.cell; have fb := hbx.frozen
   rw [ha0]
   dsimp only [encA, triV]
   simp only [List.zip_toArray, List.zip_cons_cons, List.zip_nil_right, List.size_toArray, List.length_cons, List.length_nil, Nat.zero_add, Nat.reduceAdd, List.foldl_toArray', List.foldl_cons, List.foldl_nil, List.setIfInBounds_toArray, List.set_cons_succ, List.set_cons_zero]
   clear hKB hbx hBW hln
   gi_wp2
   obtain ⟨f1, f2, f3, f4, f5⟩ := FIN.out
   rw [← HLN.out ⟨(y, U), hy1, hy2⟩] at f4
   exact ⟨f1, f2, f3, f4, f5⟩
 case stop =>
  rintro D c pre W _ _ h _
  exact h.elim
 case done =>
  rintro D1 xs WA hD1 hS ⟨hKB, hbx, hBW⟩ hK
  rw [ha0]
  have hxl : xs.length = gn := by have := congrArg List.length hS; rw [List.length_map, hcnt] at this; exact this
  rw [hxl] at hbx
  have hWA : W1.heap.size ≤ WA.heap.size := by
   have hx := (hKB ab hpa).trans ba1
   have := (Array.getElem?_eq_some_iff.1 hx).1
   omega
  have hDA : D1 < WA.heap.size := (Array.getElem?_eq_some_iff.1 hK).1
  obtain ⟨el, hel⟩ : ∃ x, WA.heap.size = x := ⟨_, rfl⟩
  obtain ⟨W2, hW2, pe2, hb2, hs2⟩ := new_box WA _ rfl [.slice none 0 0] 32
  have be2 : Boxed W2 el 32 (.slice none 0 0) := by rw [← hW2, ← hel]; exact Boxed.new WA _ _
  have HED := Lib.hid (Edges_any (some ⟨mb, 0, none⟩) W2)
  have HBX := Lib.hid hbx; have HBW := Lib.hid hBW; have HK := Lib.hid hK; have HB2 := Lib.hid hb2; have BE2 := Lib.hid be2
  clear hbx hBW hK hb2 be2 pe2 hKB
  gi_wp2_with fail
  go_wp2_with fail
  refine HED.out.mono ?_
  rintro e W3 ⟨rfl, hw3⟩
  have hb23 : Below W2.heap.size W2 W3 := by rw [← hw3]; exact (Below.refl _ _).alloc (Nat.le_refl _) _
  have hs3 : W3.heap.size = W2.heap.size + 1 := by rw [← hw3]; simp
  have bm3 : Boxed W3 W2.heap.size 25 (.pointer (some ⟨mb, 0, none⟩)) := by rw [← hw3]; exact Boxed.new W2 _ _
  obtain ⟨Bm, hBm⟩ : ∃ x, W2.heap.size = x := ⟨_, rfl⟩
  rw [hBm] at bm3 ⊢
  have hbA3 : Below WA.heap.size WA W3 := HB2.out.trans (hb23.mono HB2.out.size)
  have hb53 : Below w5.heap.size w5 W3 := HBW.out.trans (hbA3.mono HBW.out.size)
  have hg3 := HG5.out.below hb53
  have bn3 : Boxed W3 nb 3 (.int .i64 (gn : Int)) := (hbA3.block nb (by omega)).trans HBX.out
  have be3 : Boxed W3 el 32 (.slice none 0 0) := (hb23.block el (by omega)).trans BE2.out
  have hk3 : W3.heap[D1]? = some (.deferred (some [])) := (hbA3.block D1 hDA).trans HK.out
  have he1 : el < Bm := by omega
  have he2 : Bm < W3.heap.size := by omega
  have he3 : W3.heap.size ≤ Bm + 1 := by omega
  have he4 : W1.heap.size ≤ el := by omega
  have he5 : D1 < el := by omega
  have hin3 : MeshIn (fun b => b < W3.heap.size) mb pb (some ⟨tb, 0, none⟩) := ⟨by omega, by omega, fun b hb => by cases hb; omega⟩
  have hlt3 : ∀ b, EPb W3.heap.size el b → b < W3.heap.size := fun _ h => h.1
  have hpm : EPb W3.heap.size el Bm := ⟨he2, by omega⟩
  have HSH := Lib.hid (show S.length ≤ 200000 by omega)
  have HK3 := Lib.hid hk3; have BN3 := Lib.hid bn3; have HB53 := Lib.hid hb53
  clear hw3 hs3 hBm hb23 hbA3 hk3 bn3 HBX HBW HK HB2 BE2 hb53 hel hs2 hDA hWA
  go_wp2
  rw [← wpIn_wide (n := 20)]
  refine range_start9 (fun a1_ ha1_ => ?_)
  refine wpIn_rangeFunc_ownH rfl (by omega) (gf := 26) (lb := #[.pointer (some ⟨Bm, 0, none⟩)]) (by rw [ha1_]; rfl) trivial (enters_of Try.func26 (by kernel_rfl) rfl)
   (edges_stops 19 (by omega) Bm (KpE 32 el) (GdE 32 el) W3 (guardsE be3) hg3.read hin3 bm3.cell HGE.out.some_ HSH.out) (fun h k => KpE.trans h k) ?kb2 (Below.refl _ _) (fun _ => rfl)
   (fun (pre : List EdgeM) W => (∃ v, Boxed W el 32 v ∧ W.ownsRow W3.heap.size 37 4 v pre.length (edgeCells pre) ∧ True) ∧ KeepB (EPb W3.heap.size el) W3 W ∧ Below w5.heap.size w5 W)
   (fun _ _ _ => False)
   (OwnFrom.and (Own.from (holdsRow_own _ _ _ _ _ _ _ (fun _ _ => True)) _) (OwnFrom.and (keepB_own hlt3) (ownFrom_below (Nat.le_refl _) (by omega))))
   (fun _ _ _ _ _ h _ _ => h)
   ⟨⟨_, be3, World.ownsRow_nil _ _ _ _, trivial⟩, KeepB.refl _ _, HB53.out⟩
   (fun x a' W => ∃ yb, a' = { tmps := ((#[57].zip (encEd x)).foldl (fun t (p, v) => t.setIfInBounds p v) a1_.tmps).setIfInBounds 11 (.pointer (some ⟨yb, 0, none⟩)), defers := [] } ∧ W3.heap.size ≤ yb ∧ Box W yb x.cells ∧ ∃ v, Boxed W el 32 v ∧ v.ownBlock ≠ some yb)
   ?own2 ?assign2 ?body2 ?done2 ?stop2
  case kb2 =>
   intro W l o o' hl h hc _
   exact KpE.put (B := W3.heap.size) (by omega) W l o o' hl h hc
  case own2 =>
   intro x a' s A B row hs hg hr
   obtain ⟨yb, g1, g2, g3, v0, g4, g5⟩ := hs
   exact ⟨yb, g1, g2, box_ownE _ yb (fun _ : Unit => x.cells) () A B row g3 hg hr, v0, (Own.from (boxed_own el 32 (fun _ : Unit => v0)) W3.heap.size) () A B row g4 hg hr, g5⟩
  case assign2 =>
   intro l pre x W K hI hK
   rw [ha1_] at hK ⊢
   obtain ⟨ea, eb, ef, eh⟩ := x
   dsimp only [encEd, edgeVal] at hK ⊢
   obtain ⟨W4, hW4, py, hbW, hsW⟩ := new_box W _ rfl [.int .i64 ea, .int .i64 eb, .bool ef, .bool eh] 37
   gi_wp2
   obtain ⟨⟨v, hv, hrow, -⟩, hkb, hbl⟩ := hI
   have hW9 : W3.heap.size ≤ W.heap.size := by
    have hx := (hkb Bm hpm).trans bm3
    have := (Array.getElem?_eq_some_iff.1 hx).1
    omega
   refine hK _ _ ((keepsOthersE hbW).from _) (KpE.below hbW) ?_ ⟨W.heap.size, by kernel_rfl, hW9, py, v, (hbW.block el hv.lt).trans hv, fun e => by have := (hrow.lt _ e).2; omega⟩
   exact ⟨⟨v, (hbW.block el hv.lt).trans hv, owns_blow hrow hbW, trivial⟩, hkb.trans (KeepB.of_below hbW (fun b hb => by have := hlt3 b hb; omega)), hbl.trans (hbW.mono hbl.size)⟩
  case stop2 =>
   rintro D c pre W _ _ h _
   exact h.elim
  case body2 =>
   as_aux_lemma =>
    rintro l pre x a' W hWl - ⟨⟨v0, hv0, hrow0, -⟩, hKB, hBW⟩ ⟨yb, rfl, hyb, py, v1, hv1, hny⟩ hlen
    obtain rfl : v1 = v0 := by
     have := (show W.heap[el]? = _ from hv1).symm.trans (show W.heap[el]? = _ from hv0)
     simpa using this
    obtain ⟨ea, eb, ef, eh⟩ := x
    have hlen6 : pre.length < 600001 := hlen
    have hW9 : W3.heap.size ≤ W.heap.size := by
     have hx := (hKB Bm hpm).trans bm3
     have := (Array.getElem?_eq_some_iff.1 hx).1
     omega
    obtain ⟨i0, hi, hz0, hz1, hz2⟩ := info_parts infoE
    obtain ⟨w10, hw10, pz, hb10, hs10⟩ := new_box W _ rfl [.int .i64 ea, .int .i64 eb, .bool ef, .bool eh] 37
    have hrow10 := owns_blow hrow0 hb10
    have hu : Try.prog.underlying 32 = some (.slice 37) := by kernel_rfl
    have h1c : ∀ u ∈ [Value.int .i64 ea, .int .i64 eb, .bool ef, .bool eh], u.oneCell' = true := by intro u hu; simp at hu; rcases hu with rfl | rfl | rfl | rfl <;> rfl
    have h63 : pre.length + 1 ≤ maxLen := by unfold maxLen; omega
    have hby : (pre.length + 1) * 24 ≤ 140737488355328 := by omega
    have hbs : W3.heap.size ≤ w10.heap.size := by have := hb10.size; omega
    have hnews := pz.news
    have HROW := Lib.hid hrow10; have HV0 := Lib.hid hv0; have HROW0 := Lib.hid hrow0; have HKB := Lib.hid hKB; have HBW := Lib.hid hBW; have HW10 := Lib.hid hw10
    have co0 := hv0.cell
    have hv10 : Boxed w10 el 32 v1 := (hb10.block el hv0.lt).trans hv0
    have co := hv10.cell
    have q0 := py.c 0 _ rfl; have q1 := py.c 1 _ rfl; have q2 := py.c 2 _ rfl; have q3 := py.c 3 _ rfl
    have STP := Lib.hid (show ∀ (y : World) (v' : Value), y.ownsRow W3.heap.size 37 4 v' (pre.length + 1) (edgeCells pre ++ [Value.int .i64 ea, .int .i64 eb, .bool ef, .bool eh]) → w10.grownBy y v1.ownBlock → (v'.ownBlock = v1.ownBlock ∨ v'.ownBlock = some w10.heap.size) →
      (y.cell? ⟨el, 0, none⟩ = some v1 ∧ y.frozen? ⟨el, 0, none⟩ = false) ∧ KeepsOthers W (y.setCell ⟨el, 0, none⟩ v') ∧ KpE 32 el W (y.setCell ⟨el, 0, none⟩ v') ∧ (∃ u, Boxed (y.setCell ⟨el, 0, none⟩ v') el 32 u ∧ (y.setCell ⟨el, 0, none⟩ v').ownsRow W3.heap.size 37 4 u (pre ++ [(⟨ea, eb, ef, eh⟩ : EdgeM)]).length (edgeCells (pre ++ [(⟨ea, eb, ef, eh⟩ : EdgeM)])) ∧ True) ∧
       KeepB (EPb W3.heap.size el) W3 (y.setCell ⟨el, 0, none⟩ v') ∧ Below w5.heap.size w5 (y.setCell ⟨el, 0, none⟩ v') from by
     intro y v' hrow11 hgrow hwh
     rw [← hw10] at hgrow hwh
     have hv11 : Boxed y el 32 v1 := (hv0.appended (by decide) (owns_mono hrow0 (by omega : el ≤ W3.heap.size)) (by omega) (Nat.le_refl _) (owns_mono hrow11 (by omega : el ≤ W3.heap.size)) hgrow).1
     exact ⟨⟨hv11.cell, hv11.frozen⟩, ed_push (by decide) ⟨ea, eb, ef, eh⟩ hW9 (by omega) (by omega) hv0 hrow0 hKB hBW hgrow hrow11 (hwh.imp id (fun h k hk => by rw [h] at hk; cases hk; exact Nat.le_refl _))⟩)
    clear hrow10 hv0 hv1 hrow0 hKB hBW pz hb10 hs10 hv10 py hny
    rw [ha1_]
    dsimp only [encEd, edgeVal]
    simp only [List.zip_toArray, List.zip_cons_cons, List.zip_nil_right, List.size_toArray, List.length_cons, List.length_nil, Nat.zero_add, List.foldl_toArray', List.foldl_cons, List.foldl_nil, List.setIfInBounds_toArray, List.set_cons_succ, List.set_cons_zero]
    gi_wp2_with (gi_at_builtin; refine wpListIn_append_own_at _ rfl _ _ 32 rfl W3.heap.size 37 i0 (.agg #[.int .i64 0, .int .i64 0, .bool false, .bool false]) 4 24 hu hi hz0 hz1 hz2 rfl (by decide) v1 pre.length _ rfl HROW.out ⟨W.heap.size, 0, none⟩ 1 1 [.int .i64 ea, .int .i64 eb, .bool ef, .bool eh] rfl rfl hnews h1c h63 hby hbs ?_; intro v' w11 hrow11 hgrow _ hwh; obtain ⟨⟨c4, f4⟩, FN⟩ := STP.out w11 v' hrow11 hgrow hwh; have FIN := Lib.hid FN; obtain ⟨g', cap', rfl⟩ := ownsRow_succ hrow11; clear FN hrow11 hgrow hwh)
    obtain ⟨f1, f2, ⟨u, f3, f4, -⟩, f5, f6⟩ := FIN.out
    first | exact ⟨f1.from _, f2, ⟨⟨u, f3, f4⟩, f5, f6⟩⟩ | exact ⟨f1.from _, f2, ⟨⟨u, f3, f4, trivial⟩, f5, f6⟩⟩
  case done2 =>
   rintro D2 E WB hD2 hES ⟨⟨v, hv, hrow, -⟩, hKB, hBW⟩ hK2
   rw [ha1_]
   obtain ⟨hE1, hE2, hE3⟩ := HGE.out.edge E hES
   have hEl := hES.1.length_eq
   have hEu := HGE.out.euler
   have hbnd2 : E.length ≤ 48 := by
    have h1 := rawE_le S (realsK S S.length)
    have h2 := realsK_len S S.length
    omega
   rw [← hEl, hnt] at hEu
   obtain ⟨N, hN⟩ : ∃ x, (gridP gW gH).length = x := ⟨_, rfl⟩
   rw [hN] at hEu hN4 hN9
   have hne : E ≠ [] := by
    intro e
    rw [e] at hEl
    exact HGE.out.some_ (List.length_eq_zero_iff.1 hEl.symm)
   have hel0 := List.length_pos_iff.2 hne
   obtain ⟨q, hq⟩ : ∃ q, E.length = q + 1 := ⟨E.length - 1, by omega⟩
   have hrow' := hrow
   rw [hq] at hrow'
   obtain ⟨eg, ec, rfl⟩ := ownsRow_succ hrow'
   rw [← hq] at hrow' hv
   have hbx := owns_box hrow'
   have hgl := hrow'.lt eg rfl
   obtain ⟨len, hlen⟩ : ∃ x, E.length = x := ⟨_, rfl⟩
   rw [hlen] at hEu hv hel0 hbnd2
   have hW3B : W3.heap.size ≤ WB.heap.size := by
    have hx := (hKB Bm hpm).trans bm3
    have := (Array.getElem?_eq_some_iff.1 hx).1
    omega
   have hDB : D2 < WB.heap.size := (Array.getElem?_eq_some_iff.1 hK2).1
   have hK1 : WB.heap[D1]? = some (.deferred (some [])) := (hKB D1 ⟨by omega, by omega⟩).trans HK3.out
   have bnB : Boxed WB nb 3 (.int .i64 (gn : Int)) := (hKB nb ⟨by omega, by omega⟩).trans BN3.out
   have hgB := HG5.out.below hBW
   have hB0 := HB5.out.trans (hBW.mono HB5.out.size)
   have HHU := Lib.hid (show ∀ w', Below WB.heap.size WB w' → Calls Try.prog 10 #[.pointer (some ⟨mb, 0, none⟩)] w' fun e w'' => ∃ g c, e = .returned (.slice (some ⟨g, 0, none⟩) (borderM S).length c) ∧ Box w'' g (intCells (hullL (borderM S))) ∧ w'.heap.size ≤ g ∧ g < w''.heap.size ∧ Below w'.heap.size w' w'' from fun w' hb => by
    have hgw := hgB.below hb
    exact Hull_any w' hgw.read (fun e => by rw [e] at hN; simp at hN; omega) HGE.out.rimL)
   have HGB := Lib.hid hgB; have HB0 := Lib.hid hB0; have HK1 := Lib.hid hK1; have HK2 := Lib.hid hK2; have BNB := Lib.hid bnB; have BEB := Lib.hid hv; have HBX := Lib.hid hbx
   have HLEN := Lib.hid hlen; have HN := Lib.hid hN; have HE1 := Lib.hid hE1; have HE2 := Lib.hid hE2; have HE3 := Lib.hid hE3; have HDB := Lib.hid (And.intro hDB (And.intro hW3B hD2))
   clear hgB hB0 hK1 hK2 bnB hv hbx hlen hN hE1 hE2 hE3 hDB hEl hq hrow hrow' hKB hBW hne hcnt hnt
   gi_wp2_with fail
   go_wp2_with fail
   refine (HHU.out _ (Below.refl _ _)).mono ?_
   rintro e WC ⟨hg, hc, rfl, hbxh, hh1, hh2, hbC⟩
   obtain ⟨hlb, hhlb⟩ : ∃ x, (borderM S).length = x := ⟨_, rfl⟩
   have hrim := HGE.out.rim
   have hhd := HGE.out.head
   have hlb0 : 0 < hlb := by rw [← hhlb]; exact List.length_pos_iff.2 HGE.out.rimL
   rw [hhlb] at hrim ⊢
   have CC := Lib.hid (show ∀ w', Below WC.heap.size WC w' → w'.cell? ⟨nb, 0, none⟩ = some (.int .i64 (gn : Int)) ∧ w'.cell? ⟨mb, 0, none⟩ = some (.slice (some ⟨pb, 0, none⟩) N pc) ∧ w'.cell? ⟨el, 0, none⟩ = some (.slice (some ⟨eg, 0, none⟩) len ec) ∧ w'.cell? ⟨hg, 0, none⟩ = some (.int .i64 0) from fun w' hb => by
    have hbB := hbC.trans (hb.mono hbC.size)
    have h1 := (HGB.out.below hbB).read.box.c0
    rw [HN.out] at h1
    exact ⟨Boxed.cell (t := 3) ((hbB.block nb BNB.out.lt).trans BNB.out), h1, Boxed.cell (t := 32) ((hbB.block el BEB.out.lt).trans BEB.out), (hbxh.below hb).c 0 _ (intCells_get hhd)⟩)
   have HRIM := Lib.hid hrim; have HBXH := Lib.hid hbxh; have HBC := Lib.hid hbC; have HHLB := Lib.hid hhlb
   have hbnd1 : N + gn = len + 1 := hEu
   have hx1 : (IntKind.i64.wrap (IntKind.i64.wrap ((N : Int) - (len : Int)) + (gn : Int)) != 1) = false := by
    have h1 : IntKind.i64.wrap ((N : Int) - (len : Int)) = (N : Int) - (len : Int) := by rw [IntKind.wrap_i64]; omega
    have h2 : IntKind.i64.wrap ((N : Int) - (len : Int) + (gn : Int)) = 1 := by rw [IntKind.wrap_i64]; omega
    rw [h1, h2]; rfl
   clear hrim hhd hbxh hbC hhlb hEu
   go_wp2
   refine wp_region_noPanic ?_
   refine wp_region_held_drew (S := fun w' => w'.cell? ⟨nb, 0, none⟩ = some (.int .i64 (gn : Int)) ∧ w'.cell? ⟨mb, 0, none⟩ = some (.slice (some ⟨pb, 0, none⟩) N pc) ∧ w'.cell? ⟨el, 0, none⟩ = some (.slice (some ⟨eg, 0, none⟩) len ec) ∧ w'.cell? ⟨hg, 0, none⟩ = some (.int .i64 0)) (by kernel_rfl) (CC.out _ (Below.refl _ _).drew') (fun hHeld => ?_)
   refine rU 0 _ _ ?_
   (try simp only [Act.put]);try simp only [sA,sZ,sS]
   refine rU 1 _ _ ?_
   (try simp only [Act.put]);try simp only [sA,sZ,sS]
   refine rU 2 _ _ ?_
   (try simp only [Act.put]);try simp only [sA,sZ,sS]
   refine rU 3 _ _ ?_
   (try simp only [Act.put]);try simp only [sA,sZ,sS]
   refine rU 4 _ _ ?_
   (try simp only [Act.put]);try simp only [sA,sZ,sS]
   refine rU 5 _ _ ?_
   (try simp only [Act.put]);try simp only [sA,sZ,sS]
   refine rU 6 _ _ ?_
   (try simp only [Act.put]);try simp only [sA,sZ,sS]
   refine rU 7 _ _ ?_
   (try simp only [Act.put]);try simp only [sA,sZ,sS]
   refine rU 8 _ _ ?_
   (try simp only [Act.put]);try simp only [sA,sZ,sS]
   refine rU 9 _ _ ?_
   (try simp only [Act.put]);try simp only [sA,sZ,sS]
   refine rU 10 _ _ ?_
   (try simp only [Act.put]);try simp only [sA,sZ,sS]
   refine rU 11 _ _ ?_
   (try simp only [Act.put]);try simp only [sA,sZ,sS]
   refine rU 12 _ _ ?_
   (try simp only [Act.put]);try simp only [sA,sZ,sS]
   refine rU 13 _ _ ?_
   (try simp only [Act.put]);try simp only [sA,sZ,sS]
   refine rU 14 _ _ ?_
   (try simp only [Act.put]);try simp only [sA,sZ,sS]
   refine rU 15 _ _ ?_
   (try simp only [Act.put]);try simp only [sA,sZ,sS]
   refine rU 16 _ _ ?_
   (try simp only [Act.put]);try simp only [sA,sZ,sS]
   refine rU 17 _ _ ?_
   (try simp only [Act.put]);try simp only [sA,sZ,sS]
   refine rU 18 _ _ ?_
   (try simp only [Act.put]);try simp only [sA,sZ,sS]
   refine rU 19 _ _ ?_
   (try simp only [Act.put]);try simp only [sA,sZ,sS]
   refine rU 20 _ _ ?_
   (try simp only [Act.put]);try simp only [sA,sZ,sS]
   refine rU 21 _ _ ?_
   (try simp only [Act.put]);try simp only [sA,sZ,sS]
   refine rU 22 _ _ ?_
   (try simp only [Act.put]);try simp only [sA,sZ,sS]
   refine wpAnyH_done (by kernel_rfl) ?_ _
   refine NoPanic.normal ?_
   go_wp2
   go_loopw [13, 14, 15, 16, 17, 18, 19, 20, 21, 89] (fun bv _ _ _ _ _ _ _ _ iv wr => ∃ i : Nat, i ≤ len ∧ iv = .int .i64 (i : Int) ∧ bv = .int .i64 (((E.take i).filter (fun e => e.h)).length : Int) ∧ Below WC.heap.size WC wr) (fun _ _ _ _ _ _ _ _ _ iv _ => len - (intOf iv).toNat)
   case atStart => exact ⟨0, Nat.zero_le _, rfl, rfl, (Below.refl _ _).drew'⟩
   case round =>
    obtain ⟨i, hi, rfl, rfl, hbw⟩ := hrel
    by_cases hlt : i < len
    ·
     have hyd : decide ((i : Int) < (len : Int)) = true := decide_eq_true (by omega)
     obtain ⟨e, he⟩ : ∃ e, E[i]? = some e := ⟨_, List.getElem?_eq_getElem (by rw [HLEN.out]; exact hlt)⟩
     have hcnt : ((E.take (i + 1)).filter (fun e => e.h)).length = ((E.take i).filter (fun e => e.h)).length + (if e.h then 1 else 0) := by
      rw [sl_app he, List.filter_append, List.length_append]
      congr 1
      cases hh : e.h <;> simp [hh]
     have hcl : ((E.take i).filter (fun e => e.h)).length ≤ 48 := by
      have := List.length_filter_le (fun e : EdgeM => e.h) (E.take i)
      rw [List.length_take] at this
      omega
     obtain ⟨cn, hcn⟩ : ∃ x, ((E.take i).filter (fun e => e.h)).length = x := ⟨_, rfl⟩
     rw [hcn] at hcnt hcl ⊢
     have HCNT := Lib.hid hcnt
     obtain ⟨t, u, ti, uj, X, U, hX, hU, hti, huj, hf1, hf2, hfX, hfU, hh, hab⟩ := HE1.out e (List.mem_of_getElem? he)
     have HORD := Lib.hid (show ∀ k x, i = k + 1 → E[k]? = some x → ltE x e = true from fun k x hk hx => HE3.out k x e hx (by rw [← hk]; exact he))
     obtain ⟨ea, eb, ef, eh⟩ := e
     simp only [] at hf1 hf2 hfX hfU hh hab
     have hbx := HBX.out.below (HBC.out.trans (hbw.mono HBC.out.size))
     have c0 := hbx.c (i * 4) (.int .i64 ea) (by have := edgeCells_get E i 0 _ he (by omega); rwa [Nat.add_zero] at this)
     have c1 := hbx.c (i * 4 + 1) (.int .i64 eb) (edgeCells_get E i 1 _ he (by omega))
     have c2 := hbx.c (i * 4 + 2) (.bool ef) (edgeCells_get E i 2 _ he (by omega))
     have c3 := hbx.c (i * 4 + 3) (.bool eh) (edgeCells_get E i 3 _ he (by omega))
     obtain ⟨xb, hxb⟩ : ∃ x, wr.heap.size = x := ⟨_, rfl⟩
     obtain ⟨w6', hw6', px, hb6', hs6'⟩ := new_box wr _ rfl [.int .i64 ea, .int .i64 eb, .bool ef, .bool eh] 37
     rw [hxb] at px
     have hbw6 := hbw.trans (hb6'.mono hbw.size)
     have q0 := px.c 0 _ rfl; have q1 := px.c 1 _ rfl; have q2 := px.c 2 _ rfl; have q3 := px.c 3 _ rfl
     have cel := (CC.out _ hbw).2.2.1
     have HBX6 := Lib.hid (hbx.below hb6'); have PX := Lib.hid px; have HBW6 := Lib.hid hbw6
     have j1 : (0 : Int) ≤ (i : Int) := by omega
     have j2 : (i : Int) < (len : Int) := by omega
     have hXt : t < S.length := (List.getElem?_eq_some_iff.1 hX).1
     have hUt : u < S.length := (List.getElem?_eq_some_iff.1 hU).1
     obtain ⟨SL, hSL⟩ : ∃ x, S.length = x := ⟨_, rfl⟩
     rw [hSL] at hXt hUt
     have CE := Lib.hid (show ∀ w', Below w6'.heap.size w6' w' → w'.cell? ⟨xb, 0, none⟩ = some (.int .i64 ea) ∧ w'.cell? ⟨xb, 1, none⟩ = some (.int .i64 eb) ∧ w'.cell? ⟨xb, 2, none⟩ = some (.bool ef) ∧ w'.cell? ⟨xb, 3, none⟩ = some (.bool eh) ∧ w'.cell? ⟨el, 0, none⟩ = some (.slice (some ⟨eg, 0, none⟩) len ec) ∧
       w'.cell? ⟨mb, 1, none⟩ = some (.slice (some ⟨tb, 0, none⟩) SL tc) ∧ w'.cell? ⟨tb, t * 9 + 6 + ti, none⟩ = some (.bool ef) ∧ w'.cell? ⟨tb, u * 9 + 6 + uj, none⟩ = some (.bool ef) from fun w' hb => by
      have h1 := px.below hb
      have hbC := hbw6.trans (hb.mono hbw6.size)
      have hr := (HGB.out.below (HBC.out.trans (hbC.mono HBC.out.size))).read
      have h2 := hr.box.c1
      rw [hSL] at h2
      obtain ⟨tb1, e1, -, hx9⟩ := hr.tris.get hX
      obtain ⟨tb2, e2, -, hu9⟩ := hr.tris.get hU
      cases e1; cases e2
      have h3 := hx9.f hti
      have h4 := hu9.f huj
      rw [hfX] at h3; rw [hfU] at h4
      exact ⟨h1.c 0 _ rfl, h1.c 1 _ rfl, h1.c 2 _ rfl, h1.c 3 _ rfl, (CC.out _ hbC).2.2.1, h2, h3, h4⟩)
     have HRD := Lib.hid (show ∀ w', Below w6'.heap.size w6' w' → MeshR w' mb pb pc (some ⟨tb, 0, none⟩) tc (gridP gW gH) S from fun w' hb => (HGB.out.below (HBC.out.trans ((hbw6.trans (hb.mono hbw6.size)).mono HBC.out.size))).read)
     have HFD1 := Lib.hid (show ∀ w', Below w6'.heap.size w6' w' → Calls Try.prog 11 #[.pointer (some ⟨mb, 0, none⟩), .int .i64 ea, .int .i64 eb] w' fun e w'' => e = .returned (.tuple #[.int .i64 (t : Int), .int .i64 (ti : Int), .bool true]) ∧ Drew w' w'' from fun w' hb => by
      have := Find_any ea eb w' (HRD.out w' hb)
      unfold findV at this
      rw [hf1] at this
      exact this)
     have HFD2 := Lib.hid (show ∀ w', Below w6'.heap.size w6' w' → Calls Try.prog 11 #[.pointer (some ⟨mb, 0, none⟩), .int .i64 eb, .int .i64 ea] w' fun e w'' => e = .returned (.tuple #[.int .i64 (u : Int), .int .i64 (uj : Int), .bool true]) ∧ Drew w' w'' from fun w' hb => by
      have := Find_any eb ea w' (HRD.out w' hb)
      unfold findV at this
      rw [hf2] at this
      exact this)
     obtain ⟨rt, hrt⟩ : ∃ x, realM S (t : Int) = x := ⟨_, rfl⟩
     obtain ⟨ru, hru⟩ : ∃ x, realM S (u : Int) = x := ⟨_, rfl⟩
     have HRT := Lib.hid (show ∀ w', Below w6'.heap.size w6' w' → Calls Try.prog 12 #[.pointer (some ⟨mb, 0, none⟩), .int .i64 (t : Int)] w' fun e w'' => e = .returned (.bool rt) ∧ Drew w' w'' from fun w' hb => by
      have := Real_any (t : Int) w' (HRD.out w' hb)
      rw [hrt] at this
      exact this)
     have HRU := Lib.hid (show ∀ w', Below w6'.heap.size w6' w' → Calls Try.prog 12 #[.pointer (some ⟨mb, 0, none⟩), .int .i64 (u : Int)] w' fun e w'' => e = .returned (.bool ru) ∧ Drew w' w'' from fun w' hb => by
      have := Real_any (u : Int) w' (HRD.out w' hb)
      rw [hru] at this
      exact this)
     rw [hrt, hru] at hh
     have HH := Lib.hid hh
     clear hh
     have hge : decide (ea ≥ eb) = false := decide_eq_false (by omega)
     have hge2 : decide (eb ≤ ea) = false := decide_eq_false (by omega)
     have i1 : (0 : Int) ≤ (t : Int) := by omega
     have i2 : (t : Int) < (SL : Int) := by omega
     have i3 : (0 : Int) ≤ (ti : Int) := by omega
     have i4 : (ti : Int) < 3 := by omega
     have k1 : (0 : Int) ≤ (u : Int) := by omega
     have k2 : (u : Int) < (SL : Int) := by omega
     have k3 : (0 : Int) ≤ (uj : Int) := by omega
     have k4 : (uj : Int) < 3 := by omega
     have HSLL := Lib.hid hSL
     clear hbx he px hbw hb6' hs6' hcn hcnt hbw6 hX hU hti huj hf1 hf2 hfX hfU hrt hru hXt hUt hSL
     go_wp2
     clear c0 c1 c2 c3 cel q0 q1 q2 q3
     by_cases hi0 : i = 0
     ·
      as_aux_lemma =>
       have hi00 : (i : Int) = 0 := by omega
       have hgt : decide ((i : Int) > 0) = false := decide_eq_false (by omega)
       refine wp_region_noPanic ?_
       refine wp_region_held_drew (S := fun w' => w'.cell? ⟨xb, 0, none⟩ = some (.int .i64 ea) ∧ w'.cell? ⟨xb, 1, none⟩ = some (.int .i64 eb) ∧ w'.cell? ⟨el, 0, none⟩ = some (.slice (some ⟨eg, 0, none⟩) len ec)) (by kernel_rfl) (⟨(CE.out _ (Below.refl w6'.heap.size w6').drew').1, (CE.out _ (Below.refl w6'.heap.size w6').drew').2.1, (CE.out _ (Below.refl w6'.heap.size w6').drew').2.2.2.2.1⟩) (fun hHeld => ?_)
       refine rU 0 _ _ ?_
       (try simp only [Act.put]);try simp only [sA,sZ,sS]
       refine rU 1 _ _ ?_
       (try simp only [Act.put]);try simp only [sA,sZ,sS]
       refine rU 2 _ _ ?_
       (try simp only [Act.put]);try simp only [sA,sZ,sS]
       refine rU 3 _ _ ?_
       (try simp only [Act.put]);try simp only [sA,sZ,sS]
       refine rU 4 _ _ ?_
       (try simp only [Act.put]);try simp only [sA,sZ,sS]
       refine rU 5 _ _ ?_
       (try simp only [Act.put]);try simp only [sA,sZ,sS]
       refine rU 6 _ _ ?_
       (try simp only [Act.put]);try simp only [sA,sZ,sS]
       refine rU 7 _ _ ?_
       (try simp only [Act.put]);try simp only [sA,sZ,sS]
       refine rU 8 _ _ ?_
       (try simp only [Act.put]);try simp only [sA,sZ,sS]
       refine rS 9 ?_ ?_ ?_ ?_;rotate_left 1
       ·simp only [gA,gS,gZ]; exact rfl
       ·rfl
       (try simp only [Act.put]);try simp only [sA,sZ,sS]
       refine rS 10 ?_ ?_ ?_ ?_;rotate_left 1
       ·simp only [gA,gS,gZ]; exact rfl
       ·rfl
       (try simp only [Act.put]);try simp only [sA,sZ,sS]
       refine rS 11 ?_ ?_ ?_ ?_;rotate_left 1
       ·simp only [gA,gS,gZ]; exact rfl
       ·rfl
       (try simp only [Act.put]);try simp only [sA,sZ,sS]
       refine rS 12 ?_ ?_ ?_ ?_;rotate_left 1
       ·simp only [gA,gS,gZ]; exact rfl
       ·rfl
       (try simp only [Act.put]);try simp only [sA,sZ,sS]
       refine rS 13 ?_ ?_ ?_ ?_;rotate_left 1
       ·simp only [gA,gS,gZ]; exact rfl
       ·rfl
       (try simp only [Act.put]);try simp only [sA,sZ,sS]
       refine rS 14 ?_ ?_ ?_ ?_;rotate_left 1
       ·simp only [gA,gS,gZ]; exact rfl
       ·rfl
       (try simp only [Act.put]);try simp only [sA,sZ,sS]
       refine rS 15 ?_ ?_ ?_ ?_;rotate_left 1
       ·simp only [gA,gS,gZ]; exact rfl
       ·rfl
       (try simp only [Act.put]);try simp only [sA,sZ,sS]
       refine rS 16 ?_ ?_ ?_ ?_;rotate_left 1
       ·simp only [gA,gS,gZ]; exact rfl
       ·rfl
       (try simp only [Act.put]);try simp only [sA,sZ,sS]
       refine rS 17 ?_ ?_ ?_ ?_;rotate_left 1
       ·simp only [gA,gS,gZ]; exact rfl
       ·rfl
       (try simp only [Act.put]);try simp only [sA,sZ,sS]
       refine rS 18 ?_ ?_ ?_ ?_;rotate_left 1
       ·simp only [gA,gS,gZ]; exact rfl
       ·rfl
       (try simp only [Act.put]);try simp only [sA,sZ,sS]
       refine rS 19 ?_ ?_ ?_ ?_;rotate_left 1
       ·simp only [gA,gS,gZ]; exact rfl
       ·rfl
       (try simp only [Act.put]);try simp only [sA,sZ,sS]
       refine rS 20 ?_ ?_ ?_ ?_;rotate_left 1
       ·simp only [gA,gS,gZ]; exact rfl
       ·rfl
       (try simp only [Act.put]);try simp only [sA,sZ,sS]
       refine rS 21 ?_ ?_ ?_ ?_;rotate_left 1
       ·simp only [gA,gS,gZ]; exact rfl
       ·rfl
       (try simp only [Act.put]);try simp only [sA,sZ,sS]
       refine rS 22 ?_ ?_ ?_ ?_;rotate_left 1
       ·simp only [gA,gS,gZ]; exact rfl
       ·rfl
       (try simp only [Act.put]);try simp only [sA,sZ,sS]
       refine rS 23 ?_ ?_ ?_ ?_;rotate_left 1
       ·simp only [gA,gS,gZ]; exact rfl
       ·rfl
       (try simp only [Act.put]);try simp only [sA,sZ,sS]
       refine rS 24 ?_ ?_ ?_ ?_;rotate_left 1
       ·simp only [gA,gS,gZ]; exact rfl
       ·rfl
       (try simp only [Act.put]);try simp only [sA,sZ,sS]
       refine rS 25 ?_ ?_ ?_ ?_;rotate_left 1
       ·simp only [gA,gS,gZ]; exact rfl
       ·rfl
       (try simp only [Act.put]);try simp only [sA,sZ,sS]
       refine rS 26 ?_ ?_ ?_ ?_;rotate_left 1
       ·simp only [gA,gS,gZ]; exact rfl
       ·rfl
       (try simp only [Act.put]);try simp only [sA,sZ,sS]
       refine rS 27 ?_ ?_ ?_ ?_;rotate_left 1
       ·simp only [gA,gS,gZ]; exact rfl
       ·rfl
       (try simp only [Act.put]);try simp only [sA,sZ,sS]
       refine rS 28 ?_ ?_ ?_ ?_;rotate_left 1
       ·simp only [gA,gS,gZ]; exact rfl
       ·rfl
       (try simp only [Act.put]);try simp only [sA,sZ,sS]
       refine rS 29 ?_ ?_ ?_ ?_;rotate_left 1
       ·simp only [gA,gS,gZ]; exact rfl
       ·rfl
       (try simp only [Act.put]);try simp only [sA,sZ,sS]
       refine rS 30 ?_ ?_ ?_ ?_;rotate_left 1
       ·simp only [gA,gS,gZ]; exact rfl
       ·rfl
       (try simp only [Act.put]);try simp only [sA,sZ,sS]
       refine rS 31 ?_ ?_ ?_ ?_;rotate_left 1
       ·simp only [gA,gS,gZ]; exact rfl
       ·rfl
       (try simp only [Act.put]);try simp only [sA,sZ,sS]
       refine rS 32 ?_ ?_ ?_ ?_;rotate_left 1
       ·simp only [gA,gS,gZ]; exact rfl
       ·rfl
       (try simp only [Act.put]);try simp only [sA,sZ,sS]
       refine rS 33 ?_ ?_ ?_ ?_;rotate_left 1
       ·simp only [gA,gS,gZ]; exact rfl
       ·rfl
       (try simp only [Act.put]);try simp only [sA,sZ,sS]
       refine rS 34 ?_ ?_ ?_ ?_;rotate_left 1
       ·simp only [gA,gS,gZ]; exact rfl
       ·rfl
       (try simp only [Act.put]);try simp only [sA,sZ,sS]
       refine rS 35 ?_ ?_ ?_ ?_;rotate_left 1
       ·simp only [gA,gS,gZ]; exact rfl
       ·rfl
       (try simp only [Act.put]);try simp only [sA,sZ,sS]
       refine rS 36 ?_ ?_ ?_ ?_;rotate_left 1
       ·simp only [gA,gS,gZ]; exact rfl
       ·rfl
       (try simp only [Act.put]);try simp only [sA,sZ,sS]
       refine rS 37 ?_ ?_ ?_ ?_;rotate_left 1
       ·simp only [gA,gS,gZ]; exact rfl
       ·rfl
       (try simp only [Act.put]);try simp only [sA,sZ,sS]
       refine rS 38 ?_ ?_ ?_ ?_;rotate_left 1
       ·simp only [gA,gS,gZ]; exact rfl
       ·rfl
       (try simp only [Act.put]);try simp only [sA,sZ,sS]
       refine rS 39 ?_ ?_ ?_ ?_;rotate_left 1
       ·simp only [gA,gS,gZ]; exact rfl
       ·rfl
       (try simp only [Act.put]);try simp only [sA,sZ,sS]
       refine rU 40 _ _ ?_
       (try simp only [Act.put]);try simp only [sA,sZ,sS]
       refine rU 41 _ _ ?_
       (try simp only [Act.put]);try simp only [sA,sZ,sS]
       refine wpAnyH_done (by kernel_rfl) ?_ _
       refine NoPanic.normal ?_
       have hb6d := (Below.refl w6'.heap.size w6').drew'
       obtain ⟨q0, q1, -⟩ := CE.out _ (Below.refl w6'.heap.size w6')
       go_wp2_with fail
       refine (HFD1.out _ hb6d).mono ?_
       rintro e w7' ⟨rfl, hd7⟩
       have hb7 := hb6d.trans (hd7.below.mono hb6d.size)
       clear q0 q1 hd7
       obtain ⟨q0, q1, -⟩ := CE.out _ hb7
       go_wp2_with fail
       refine (HFD2.out _ hb7).mono ?_
       rintro e w8' ⟨rfl, hd8⟩
       have hb8 := hb7.trans (hd8.below.mono hb7.size)
       clear q0 q1 hd8
       have hb8d := hb8.drew'
       go_wp2
       cases rt with
       | false =>
        have heh : eh = true := by have := HH.out; simpa using this
        subst heh
        refine wp_region_noPanic ?_
        refine wp_region_held_drew (S := fun w' => w'.cell? ⟨mb, 1, none⟩ = some (.slice (some ⟨tb, 0, none⟩) SL tc) ∧ w'.cell? ⟨tb, t * 9 + 6 + ti, none⟩ = some (.bool ef) ∧ w'.cell? ⟨tb, u * 9 + 6 + uj, none⟩ = some (.bool ef) ∧ w'.cell? ⟨xb, 2, none⟩ = some (.bool ef) ∧ w'.cell? ⟨xb, 3, none⟩ = some (.bool true)) (by kernel_rfl) (⟨(CE.out _ hb8d).2.2.2.2.2.1, (CE.out _ hb8d).2.2.2.2.2.2.1, (CE.out _ hb8d).2.2.2.2.2.2.2, (CE.out _ hb8d).2.2.1, (CE.out _ hb8d).2.2.2.1⟩) (fun hHeld => ?_)
        refine rU 0 _ _ ?_
        (try simp only [Act.put]);try simp only [sA,sZ,sS]
        refine rU 1 _ _ ?_
        (try simp only [Act.put]);try simp only [sA,sZ,sS]
        refine rU 2 _ _ ?_
        (try simp only [Act.put]);try simp only [sA,sZ,sS]
        refine rU 3 _ _ ?_
        (try simp only [Act.put]);try simp only [sA,sZ,sS]
        refine rU 4 _ _ ?_
        (try simp only [Act.put]);try simp only [sA,sZ,sS]
        refine rU 5 _ _ ?_
        (try simp only [Act.put]);try simp only [sA,sZ,sS]
        refine rU 6 _ _ ?_
        (try simp only [Act.put]);try simp only [sA,sZ,sS]
        refine rU 7 _ _ ?_
        (try simp only [Act.put]);try simp only [sA,sZ,sS]
        refine rU 8 _ _ ?_
        (try simp only [Act.put]);try simp only [sA,sZ,sS]
        refine rU 9 _ _ ?_
        (try simp only [Act.put]);try simp only [sA,sZ,sS]
        refine rU 10 _ _ ?_
        (try simp only [Act.put]);try simp only [sA,sZ,sS]
        refine rU 11 _ _ ?_
        (try simp only [Act.put]);try simp only [sA,sZ,sS]
        refine rU 12 _ _ ?_
        (try simp only [Act.put]);try simp only [sA,sZ,sS]
        refine rU 13 _ _ ?_
        (try simp only [Act.put]);try simp only [sA,sZ,sS]
        refine rU 14 _ _ ?_
        (try simp only [Act.put]);try simp only [sA,sZ,sS]
        refine rU 15 _ _ ?_
        (try simp only [Act.put]);try simp only [sA,sZ,sS]
        refine rU 16 _ _ ?_
        (try simp only [Act.put]);try simp only [sA,sZ,sS]
        refine rU 17 _ _ ?_
        (try simp only [Act.put]);try simp only [sA,sZ,sS]
        refine rU 18 _ _ ?_
        (try simp only [Act.put]);try simp only [sA,sZ,sS]
        refine rU 19 _ _ ?_
        (try simp only [Act.put]);try simp only [sA,sZ,sS]
        refine rU 20 _ _ ?_
        (try simp only [Act.put]);try simp only [sA,sZ,sS]
        refine rU 21 _ _ ?_
        (try simp only [Act.put]);try simp only [sA,sZ,sS]
        refine rU 22 _ _ ?_
        (try simp only [Act.put]);try simp only [sA,sZ,sS]
        refine rU 23 _ _ ?_
        (try simp only [Act.put]);try simp only [sA,sZ,sS]
        refine rU 24 _ _ ?_
        (try simp only [Act.put]);try simp only [sA,sZ,sS]
        refine rU 25 _ _ ?_
        (try simp only [Act.put]);try simp only [sA,sZ,sS]
        refine rU 26 _ _ ?_
        (try simp only [Act.put]);try simp only [sA,sZ,sS]
        refine rU 27 _ _ ?_
        (try simp only [Act.put]);try simp only [sA,sZ,sS]
        refine rU 28 _ _ ?_
        (try simp only [Act.put]);try simp only [sA,sZ,sS]
        refine rU 29 _ _ ?_
        (try simp only [Act.put]);try simp only [sA,sZ,sS]
        refine rU 30 _ _ ?_
        (try simp only [Act.put]);try simp only [sA,sZ,sS]
        refine rU 31 _ _ ?_
        (try simp only [Act.put]);try simp only [sA,sZ,sS]
        refine rU 32 _ _ ?_
        (try simp only [Act.put]);try simp only [sA,sZ,sS]
        refine rU 33 _ _ ?_
        (try simp only [Act.put]);try simp only [sA,sZ,sS]
        refine rU 34 _ _ ?_
        (try simp only [Act.put]);try simp only [sA,sZ,sS]
        refine rU 35 _ _ ?_
        (try simp only [Act.put]);try simp only [sA,sZ,sS]
        refine rU 36 _ _ ?_
        (try simp only [Act.put]);try simp only [sA,sZ,sS]
        refine rU 37 _ _ ?_
        (try simp only [Act.put]);try simp only [sA,sZ,sS]
        refine rU 38 _ _ ?_
        (try simp only [Act.put]);try simp only [sA,sZ,sS]
        refine rU 39 _ _ ?_
        (try simp only [Act.put]);try simp only [sA,sZ,sS]
        refine rU 40 _ _ ?_
        (try simp only [Act.put]);try simp only [sA,sZ,sS]
        refine reg_call 41 ?_ (by kernel_rfl) ?_ (fun K hK => ?_);rotate_left 1
        ·simp only [gA,gS,gZ]; exact rfl
        go_simp
        refine (HRT.out _ hb8d).mono ?_
        rintro e wv ⟨rfl, hdv⟩
        have hb9 := hb8d.trans (hdv.below.mono hb8d.size)
        clear hdv
        go_wp2_with fail
        refine hK.out _ _ (⟨(CE.out _ hb9).2.2.2.2.2.1, (CE.out _ hb9).2.2.2.2.2.2.1, (CE.out _ hb9).2.2.2.2.2.2.2, (CE.out _ hb9).2.2.1, (CE.out _ hb9).2.2.2.1⟩) (fun hHeld => ?_)
        clear hK K
        (try simp only [Act.put]);try simp only [sA,sZ,sS]
        refine rU 42 _ _ ?_
        (try simp only [Act.put]);try simp only [sA,sZ,sS]
        refine rU 43 _ _ ?_
        (try simp only [Act.put]);try simp only [sA,sZ,sS]
        refine rS 44 ?_ ?_ ?_ ?_;rotate_left 1
        ·simp only [gA,gS,gZ]; exact rfl
        ·rfl
        (try simp only [Act.put]);try simp only [sA,sZ,sS]
        refine rS 45 ?_ ?_ ?_ ?_;rotate_left 1
        ·simp only [gA,gS,gZ]; exact rfl
        ·rfl
        (try simp only [Act.put]);try simp only [sA,sZ,sS]
        refine rS 46 ?_ ?_ ?_ ?_;rotate_left 1
        ·simp only [gA,gS,gZ]; exact rfl
        ·rfl
        (try simp only [Act.put]);try simp only [sA,sZ,sS]
        refine rS 47 ?_ ?_ ?_ ?_;rotate_left 1
        ·simp only [gA,gS,gZ]; exact rfl
        ·rfl
        (try simp only [Act.put]);try simp only [sA,sZ,sS]
        refine rU 48 _ _ ?_
        (try simp only [Act.put]);try simp only [sA,sZ,sS]
        refine rU 49 _ _ ?_
        (try simp only [Act.put]);try simp only [sA,sZ,sS]
        refine rU 50 _ _ ?_
        (try simp only [Act.put]);try simp only [sA,sZ,sS]
        refine wpAnyH_done (by kernel_rfl) ?_ _
        refine NoPanic.normal ?_
        obtain ⟨-, -, -, q3, -⟩ := CE.out _ hb9
        have FB := Lib.hid (HBW6.out.trans (hb9.mono HBW6.out.size))
        have hct := HCNT.out
        simp at hct
        have HCT := Lib.hid hct
        clear hct
        go_wp2
        go_round
        case rel => exact ⟨i + 1, by omega, by go_num, by rw [HCT.out] <;> go_num, FB.out⟩
        case measure => simp [intOf]; omega
       | true =>
        have heh : eh = !ru := by have := HH.out; simpa using this
        subst heh
        refine wp_region_noPanic ?_
        refine wp_region_held_drew (S := fun w' => w'.cell? ⟨mb, 1, none⟩ = some (.slice (some ⟨tb, 0, none⟩) SL tc) ∧ w'.cell? ⟨tb, t * 9 + 6 + ti, none⟩ = some (.bool ef) ∧ w'.cell? ⟨tb, u * 9 + 6 + uj, none⟩ = some (.bool ef) ∧ w'.cell? ⟨xb, 2, none⟩ = some (.bool ef) ∧ w'.cell? ⟨xb, 3, none⟩ = some (.bool (!ru))) (by kernel_rfl) (⟨(CE.out _ hb8d).2.2.2.2.2.1, (CE.out _ hb8d).2.2.2.2.2.2.1, (CE.out _ hb8d).2.2.2.2.2.2.2, (CE.out _ hb8d).2.2.1, (CE.out _ hb8d).2.2.2.1⟩) (fun hHeld => ?_)
        refine rU 0 _ _ ?_
        (try simp only [Act.put]);try simp only [sA,sZ,sS]
        refine rU 1 _ _ ?_
        (try simp only [Act.put]);try simp only [sA,sZ,sS]
        refine rU 2 _ _ ?_
        (try simp only [Act.put]);try simp only [sA,sZ,sS]
        refine rU 3 _ _ ?_
        (try simp only [Act.put]);try simp only [sA,sZ,sS]
        refine rU 4 _ _ ?_
        (try simp only [Act.put]);try simp only [sA,sZ,sS]
        refine rU 5 _ _ ?_
        (try simp only [Act.put]);try simp only [sA,sZ,sS]
        refine rU 6 _ _ ?_
        (try simp only [Act.put]);try simp only [sA,sZ,sS]
        refine rU 7 _ _ ?_
        (try simp only [Act.put]);try simp only [sA,sZ,sS]
        refine rU 8 _ _ ?_
        (try simp only [Act.put]);try simp only [sA,sZ,sS]
        refine rU 9 _ _ ?_
        (try simp only [Act.put]);try simp only [sA,sZ,sS]
        refine rU 10 _ _ ?_
        (try simp only [Act.put]);try simp only [sA,sZ,sS]
        refine rU 11 _ _ ?_
        (try simp only [Act.put]);try simp only [sA,sZ,sS]
        refine rU 12 _ _ ?_
        (try simp only [Act.put]);try simp only [sA,sZ,sS]
        refine rU 13 _ _ ?_
        (try simp only [Act.put]);try simp only [sA,sZ,sS]
        refine rU 14 _ _ ?_
        (try simp only [Act.put]);try simp only [sA,sZ,sS]
        refine rU 15 _ _ ?_
        (try simp only [Act.put]);try simp only [sA,sZ,sS]
        refine rU 16 _ _ ?_
        (try simp only [Act.put]);try simp only [sA,sZ,sS]
        refine rU 17 _ _ ?_
        (try simp only [Act.put]);try simp only [sA,sZ,sS]
        refine rU 18 _ _ ?_
        (try simp only [Act.put]);try simp only [sA,sZ,sS]
        refine rU 19 _ _ ?_
        (try simp only [Act.put]);try simp only [sA,sZ,sS]
        refine rU 20 _ _ ?_
        (try simp only [Act.put]);try simp only [sA,sZ,sS]
        refine rU 21 _ _ ?_
        (try simp only [Act.put]);try simp only [sA,sZ,sS]
        refine rU 22 _ _ ?_
        (try simp only [Act.put]);try simp only [sA,sZ,sS]
        refine rU 23 _ _ ?_
        (try simp only [Act.put]);try simp only [sA,sZ,sS]
        refine rU 24 _ _ ?_
        (try simp only [Act.put]);try simp only [sA,sZ,sS]
        refine rU 25 _ _ ?_
        (try simp only [Act.put]);try simp only [sA,sZ,sS]
        refine rU 26 _ _ ?_
        (try simp only [Act.put]);try simp only [sA,sZ,sS]
        refine rU 27 _ _ ?_
        (try simp only [Act.put]);try simp only [sA,sZ,sS]
        refine rU 28 _ _ ?_
        (try simp only [Act.put]);try simp only [sA,sZ,sS]
        refine rU 29 _ _ ?_
        (try simp only [Act.put]);try simp only [sA,sZ,sS]
        refine rU 30 _ _ ?_
        (try simp only [Act.put]);try simp only [sA,sZ,sS]
        refine rU 31 _ _ ?_
        (try simp only [Act.put]);try simp only [sA,sZ,sS]
        refine rU 32 _ _ ?_
        (try simp only [Act.put]);try simp only [sA,sZ,sS]
        refine rU 33 _ _ ?_
        (try simp only [Act.put]);try simp only [sA,sZ,sS]
        refine rU 34 _ _ ?_
        (try simp only [Act.put]);try simp only [sA,sZ,sS]
        refine rU 35 _ _ ?_
        (try simp only [Act.put]);try simp only [sA,sZ,sS]
        refine rU 36 _ _ ?_
        (try simp only [Act.put]);try simp only [sA,sZ,sS]
        refine rU 37 _ _ ?_
        (try simp only [Act.put]);try simp only [sA,sZ,sS]
        refine rU 38 _ _ ?_
        (try simp only [Act.put]);try simp only [sA,sZ,sS]
        refine rU 39 _ _ ?_
        (try simp only [Act.put]);try simp only [sA,sZ,sS]
        refine rU 40 _ _ ?_
        (try simp only [Act.put]);try simp only [sA,sZ,sS]
        refine reg_call 41 ?_ (by kernel_rfl) ?_ (fun K hK => ?_);rotate_left 1
        ·simp only [gA,gS,gZ]; exact rfl
        go_simp
        refine (HRT.out _ hb8d).mono ?_
        rintro e wv ⟨rfl, hdv⟩
        have hb9_ := hb8d.trans (hdv.below.mono hb8d.size)
        clear hdv
        go_wp2_with fail
        refine hK.out _ _ (⟨(CE.out _ hb9_).2.2.2.2.2.1, (CE.out _ hb9_).2.2.2.2.2.2.1, (CE.out _ hb9_).2.2.2.2.2.2.2, (CE.out _ hb9_).2.2.1, (CE.out _ hb9_).2.2.2.1⟩) (fun hHeld => ?_)
        clear hK K
        (try simp only [Act.put]);try simp only [sA,sZ,sS]
        refine rU 42 _ _ ?_
        (try simp only [Act.put]);try simp only [sA,sZ,sS]
        refine rU 43 _ _ ?_
        (try simp only [Act.put]);try simp only [sA,sZ,sS]
        refine rU 44 _ _ ?_
        (try simp only [Act.put]);try simp only [sA,sZ,sS]
        refine rU 45 _ _ ?_
        (try simp only [Act.put]);try simp only [sA,sZ,sS]
        refine reg_call 46 ?_ (by kernel_rfl) ?_ (fun K hK => ?_);rotate_left 1
        ·simp only [gA,gS,gZ]; exact rfl
        go_simp
        refine (HRU.out _ hb9_).mono ?_
        rintro e wv ⟨rfl, hdv⟩
        have hb9 := hb9_.trans (hdv.below.mono hb9_.size)
        clear hdv
        go_wp2_with fail
        refine hK.out _ _ (⟨(CE.out _ hb9).2.2.2.2.2.1, (CE.out _ hb9).2.2.2.2.2.2.1, (CE.out _ hb9).2.2.2.2.2.2.2, (CE.out _ hb9).2.2.1, (CE.out _ hb9).2.2.2.1⟩) (fun hHeld => ?_)
        clear hK K
        (try simp only [Act.put]);try simp only [sA,sZ,sS]
        refine rU 47 _ _ ?_
        (try simp only [Act.put]);try simp only [sA,sZ,sS]
        refine rU 48 _ _ ?_
        (try simp only [Act.put]);try simp only [sA,sZ,sS]
        refine rU 49 _ _ ?_
        (try simp only [Act.put]);try simp only [sA,sZ,sS]
        refine rU 50 _ _ ?_
        (try simp only [Act.put]);try simp only [sA,sZ,sS]
        refine wpAnyH_done (by kernel_rfl) ?_ _
        refine NoPanic.normal ?_
        cases ru with
        | false =>
         obtain ⟨-, -, -, q3, -⟩ := CE.out _ hb9
         have FB := Lib.hid (HBW6.out.trans (hb9.mono HBW6.out.size))
         have hct := HCNT.out
         simp at hct
         have HCT := Lib.hid hct
         clear hct
         go_wp2
         go_round
         case rel => exact ⟨i + 1, by omega, by go_num, by rw [HCT.out] <;> go_num, FB.out⟩
         case measure => simp [intOf]; omega
        | true =>
         obtain ⟨-, -, -, q3, -⟩ := CE.out _ hb9
         have FB := Lib.hid (HBW6.out.trans (hb9.mono HBW6.out.size))
         have hct := HCNT.out
         simp at hct
         have HCT := Lib.hid hct
         clear hct
         go_wp2
         go_round
         case rel => exact ⟨i + 1, by omega, by go_num, by rw [HCT.out] <;> go_num, FB.out⟩
         case measure => simp [intOf]; omega
     ·
      obtain ⟨k, hk⟩ : ∃ k, i = k + 1 := ⟨i - 1, by omega⟩
      obtain ⟨x, hx⟩ : ∃ x, E[k]? = some x := ⟨_, List.getElem?_eq_getElem (by rw [HLEN.out]; omega)⟩
      have hlt2 := HORD.out k x hk hx
      have hgt : decide ((i : Int) > 0) = true := decide_eq_true (by omega)
      have hgt2 : decide (0 < (i : Int)) = true := decide_eq_true (by omega)
      have hgt3 : 0 < i := by omega
      have hwk : IntKind.i64.wrap ((i : Int) - 1) = (k : Int) := by rw [IntKind.wrap_i64]; omega
      obtain ⟨xa, xc, xf, xh⟩ := x
      have l1 : (0 : Int) ≤ (k : Int) := by omega
      have l2 : (k : Int) < (len : Int) := by omega
      have CX := Lib.hid (show ∀ w', Below w6'.heap.size w6' w' → w'.cell? ⟨eg, k * 4, none⟩ = some (.int .i64 xa) ∧ w'.cell? ⟨eg, k * 4 + 1, none⟩ = some (.int .i64 xc) from fun w' hb => by
       have h := HBX6.out.below hb
       exact ⟨h.c (k * 4) (.int .i64 xa) (by have := edgeCells_get E k 0 _ hx (by omega); rwa [Nat.add_zero] at this), h.c (k * 4 + 1) (.int .i64 xc) (edgeCells_get E k 1 _ hx (by omega))⟩)
      unfold ltE at hlt2
      have hlt2 := of_decide_eq_true hlt2
      simp only [] at hlt2
      have hik : ¬ i = 0 := hi0
      clear hx hk hi0 hik
      by_cases hxa : xa = ea
      ·
       as_aux_lemma =>
        subst hxa
        have hg1 : decide (xa > xa) = false := decide_eq_false (by omega)
        have hg2 : (xa == xa) = true := by simp
        have hg3 : decide (xc ≥ eb) = false := decide_eq_false (by omega)
        have hg4 : decide (eb ≤ xc) = false := decide_eq_false (by omega)
        refine wp_region_noPanic ?_
        refine wp_region_held_drew (S := fun w' => w'.cell? ⟨xb, 0, none⟩ = some (.int .i64 xa) ∧ w'.cell? ⟨xb, 1, none⟩ = some (.int .i64 eb) ∧ w'.cell? ⟨el, 0, none⟩ = some (.slice (some ⟨eg, 0, none⟩) len ec) ∧ w'.cell? ⟨eg, k * 4, none⟩ = some (.int .i64 xa) ∧ w'.cell? ⟨eg, k * 4 + 1, none⟩ = some (.int .i64 xc)) (by kernel_rfl) (⟨(CE.out _ (Below.refl w6'.heap.size w6').drew').1, (CE.out _ (Below.refl w6'.heap.size w6').drew').2.1, (CE.out _ (Below.refl w6'.heap.size w6').drew').2.2.2.2.1, (CX.out _ (Below.refl w6'.heap.size w6').drew').1, (CX.out _ (Below.refl w6'.heap.size w6').drew').2⟩) (fun hHeld => ?_)
        refine rU 0 _ _ ?_
        (try simp only [Act.put]);try simp only [sA,sZ,sS]
        refine rU 1 _ _ ?_
        (try simp only [Act.put]);try simp only [sA,sZ,sS]
        refine rU 2 _ _ ?_
        (try simp only [Act.put]);try simp only [sA,sZ,sS]
        refine rU 3 _ _ ?_
        (try simp only [Act.put]);try simp only [sA,sZ,sS]
        refine rU 4 _ _ ?_
        (try simp only [Act.put]);try simp only [sA,sZ,sS]
        refine rU 5 _ _ ?_
        (try simp only [Act.put]);try simp only [sA,sZ,sS]
        refine rU 6 _ _ ?_
        (try simp only [Act.put]);try simp only [sA,sZ,sS]
        refine rU 7 _ _ ?_
        (try simp only [Act.put]);try simp only [sA,sZ,sS]
        refine rU 8 _ _ ?_
        (try simp only [Act.put]);try simp only [sA,sZ,sS]
        refine rU 9 _ _ ?_
        (try simp only [Act.put]);try simp only [sA,sZ,sS]
        refine rU 10 _ _ ?_
        (try simp only [Act.put]);try simp only [sA,sZ,sS]
        refine rU 11 _ _ ?_
        (try simp only [Act.put]);try simp only [sA,sZ,sS]
        refine rU 12 _ _ ?_
        (try simp only [Act.put]);try simp only [sA,sZ,sS]
        refine rU 13 _ _ ?_
        (try simp only [Act.put]);try simp only [sA,sZ,sS]
        refine rU 14 _ _ ?_
        (try simp only [Act.put]);try simp only [sA,sZ,sS]
        refine rU 15 _ _ ?_
        (try simp only [Act.put]);try simp only [sA,sZ,sS]
        refine rU 16 _ _ ?_
        (try simp only [Act.put]);try simp only [sA,sZ,sS]
        refine rU 17 _ _ ?_
        (try simp only [Act.put]);try simp only [sA,sZ,sS]
        refine rU 18 _ _ ?_
        (try simp only [Act.put]);try simp only [sA,sZ,sS]
        refine rU 19 _ _ ?_
        (try simp only [Act.put]);try simp only [sA,sZ,sS]
        refine rU 20 _ _ ?_
        (try simp only [Act.put]);try simp only [sA,sZ,sS]
        refine rU 21 _ _ ?_
        (try simp only [Act.put]);try simp only [sA,sZ,sS]
        refine rU 22 _ _ ?_
        (try simp only [Act.put]);try simp only [sA,sZ,sS]
        refine rU 23 _ _ ?_
        (try simp only [Act.put]);try simp only [sA,sZ,sS]
        refine rU 24 _ _ ?_
        (try simp only [Act.put]);try simp only [sA,sZ,sS]
        refine rU 25 _ _ ?_
        (try simp only [Act.put]);try simp only [sA,sZ,sS]
        refine rU 26 _ _ ?_
        (try simp only [Act.put]);try simp only [sA,sZ,sS]
        refine rU 27 _ _ ?_
        (try simp only [Act.put]);try simp only [sA,sZ,sS]
        refine rU 28 _ _ ?_
        (try simp only [Act.put]);try simp only [sA,sZ,sS]
        refine rU 29 _ _ ?_
        (try simp only [Act.put]);try simp only [sA,sZ,sS]
        refine rU 30 _ _ ?_
        (try simp only [Act.put]);try simp only [sA,sZ,sS]
        refine rU 31 _ _ ?_
        (try simp only [Act.put]);try simp only [sA,sZ,sS]
        refine rU 32 _ _ ?_
        (try simp only [Act.put]);try simp only [sA,sZ,sS]
        refine rU 33 _ _ ?_
        (try simp only [Act.put]);try simp only [sA,sZ,sS]
        refine rU 34 _ _ ?_
        (try simp only [Act.put]);try simp only [sA,sZ,sS]
        refine rU 35 _ _ ?_
        (try simp only [Act.put]);try simp only [sA,sZ,sS]
        refine rU 36 _ _ ?_
        (try simp only [Act.put]);try simp only [sA,sZ,sS]
        refine rU 37 _ _ ?_
        (try simp only [Act.put]);try simp only [sA,sZ,sS]
        refine rU 38 _ _ ?_
        (try simp only [Act.put]);try simp only [sA,sZ,sS]
        refine rU 39 _ _ ?_
        (try simp only [Act.put]);try simp only [sA,sZ,sS]
        refine rU 40 _ _ ?_
        (try simp only [Act.put]);try simp only [sA,sZ,sS]
        refine rU 41 _ _ ?_
        (try simp only [Act.put]);try simp only [sA,sZ,sS]
        refine wpAnyH_done (by kernel_rfl) ?_ _
        refine NoPanic.normal ?_
        have hb6d := (Below.refl w6'.heap.size w6').drew'
        obtain ⟨q0, q1, -⟩ := CE.out _ (Below.refl w6'.heap.size w6')
        go_wp2_with fail
        refine (HFD1.out _ hb6d).mono ?_
        rintro e w7' ⟨rfl, hd7⟩
        have hb7 := hb6d.trans (hd7.below.mono hb6d.size)
        clear q0 q1 hd7
        obtain ⟨q0, q1, -⟩ := CE.out _ hb7
        go_wp2_with fail
        refine (HFD2.out _ hb7).mono ?_
        rintro e w8' ⟨rfl, hd8⟩
        have hb8 := hb7.trans (hd8.below.mono hb7.size)
        clear q0 q1 hd8
        have hb8d := hb8.drew'
        go_wp2
        cases rt with
        | false =>
         have heh : eh = true := by have := HH.out; simpa using this
         subst heh
         refine wp_region_noPanic ?_
         refine wp_region_held_drew (S := fun w' => w'.cell? ⟨mb, 1, none⟩ = some (.slice (some ⟨tb, 0, none⟩) SL tc) ∧ w'.cell? ⟨tb, t * 9 + 6 + ti, none⟩ = some (.bool ef) ∧ w'.cell? ⟨tb, u * 9 + 6 + uj, none⟩ = some (.bool ef) ∧ w'.cell? ⟨xb, 2, none⟩ = some (.bool ef) ∧ w'.cell? ⟨xb, 3, none⟩ = some (.bool true)) (by kernel_rfl) (⟨(CE.out _ hb8d).2.2.2.2.2.1, (CE.out _ hb8d).2.2.2.2.2.2.1, (CE.out _ hb8d).2.2.2.2.2.2.2, (CE.out _ hb8d).2.2.1, (CE.out _ hb8d).2.2.2.1⟩) (fun hHeld => ?_)
         refine rU 0 _ _ ?_
         (try simp only [Act.put]);try simp only [sA,sZ,sS]
         refine rU 1 _ _ ?_
         (try simp only [Act.put]);try simp only [sA,sZ,sS]
         refine rU 2 _ _ ?_
         (try simp only [Act.put]);try simp only [sA,sZ,sS]
         refine rU 3 _ _ ?_
         (try simp only [Act.put]);try simp only [sA,sZ,sS]
         refine rU 4 _ _ ?_
         (try simp only [Act.put]);try simp only [sA,sZ,sS]
         refine rU 5 _ _ ?_
         (try simp only [Act.put]);try simp only [sA,sZ,sS]
         refine rU 6 _ _ ?_
         (try simp only [Act.put]);try simp only [sA,sZ,sS]
         refine rU 7 _ _ ?_
         (try simp only [Act.put]);try simp only [sA,sZ,sS]
         refine rU 8 _ _ ?_
         (try simp only [Act.put]);try simp only [sA,sZ,sS]
         refine rU 9 _ _ ?_
         (try simp only [Act.put]);try simp only [sA,sZ,sS]
         refine rU 10 _ _ ?_
         (try simp only [Act.put]);try simp only [sA,sZ,sS]
         refine rU 11 _ _ ?_
         (try simp only [Act.put]);try simp only [sA,sZ,sS]
         refine rU 12 _ _ ?_
         (try simp only [Act.put]);try simp only [sA,sZ,sS]
         refine rU 13 _ _ ?_
         (try simp only [Act.put]);try simp only [sA,sZ,sS]
         refine rU 14 _ _ ?_
         (try simp only [Act.put]);try simp only [sA,sZ,sS]
         refine rU 15 _ _ ?_
         (try simp only [Act.put]);try simp only [sA,sZ,sS]
         refine rU 16 _ _ ?_
         (try simp only [Act.put]);try simp only [sA,sZ,sS]
         refine rU 17 _ _ ?_
         (try simp only [Act.put]);try simp only [sA,sZ,sS]
         refine rU 18 _ _ ?_
         (try simp only [Act.put]);try simp only [sA,sZ,sS]
         refine rU 19 _ _ ?_
         (try simp only [Act.put]);try simp only [sA,sZ,sS]
         refine rU 20 _ _ ?_
         (try simp only [Act.put]);try simp only [sA,sZ,sS]
         refine rU 21 _ _ ?_
         (try simp only [Act.put]);try simp only [sA,sZ,sS]
         refine rU 22 _ _ ?_
         (try simp only [Act.put]);try simp only [sA,sZ,sS]
         refine rU 23 _ _ ?_
         (try simp only [Act.put]);try simp only [sA,sZ,sS]
         refine rU 24 _ _ ?_
         (try simp only [Act.put]);try simp only [sA,sZ,sS]
         refine rU 25 _ _ ?_
         (try simp only [Act.put]);try simp only [sA,sZ,sS]
         refine rU 26 _ _ ?_
         (try simp only [Act.put]);try simp only [sA,sZ,sS]
         refine rU 27 _ _ ?_
         (try simp only [Act.put]);try simp only [sA,sZ,sS]
         refine rU 28 _ _ ?_
         (try simp only [Act.put]);try simp only [sA,sZ,sS]
         refine rU 29 _ _ ?_
         (try simp only [Act.put]);try simp only [sA,sZ,sS]
         refine rU 30 _ _ ?_
         (try simp only [Act.put]);try simp only [sA,sZ,sS]
         refine rU 31 _ _ ?_
         (try simp only [Act.put]);try simp only [sA,sZ,sS]
         refine rU 32 _ _ ?_
         (try simp only [Act.put]);try simp only [sA,sZ,sS]
         refine rU 33 _ _ ?_
         (try simp only [Act.put]);try simp only [sA,sZ,sS]
         refine rU 34 _ _ ?_
         (try simp only [Act.put]);try simp only [sA,sZ,sS]
         refine rU 35 _ _ ?_
         (try simp only [Act.put]);try simp only [sA,sZ,sS]
         refine rU 36 _ _ ?_
         (try simp only [Act.put]);try simp only [sA,sZ,sS]
         refine rU 37 _ _ ?_
         (try simp only [Act.put]);try simp only [sA,sZ,sS]
         refine rU 38 _ _ ?_
         (try simp only [Act.put]);try simp only [sA,sZ,sS]
         refine rU 39 _ _ ?_
         (try simp only [Act.put]);try simp only [sA,sZ,sS]
         refine rU 40 _ _ ?_
         (try simp only [Act.put]);try simp only [sA,sZ,sS]
         refine reg_call 41 ?_ (by kernel_rfl) ?_ (fun K hK => ?_);rotate_left 1
         ·simp only [gA,gS,gZ]; exact rfl
         go_simp
         refine (HRT.out _ hb8d).mono ?_
         rintro e wv ⟨rfl, hdv⟩
         have hb9 := hb8d.trans (hdv.below.mono hb8d.size)
         clear hdv
         go_wp2_with fail
         refine hK.out _ _ (⟨(CE.out _ hb9).2.2.2.2.2.1, (CE.out _ hb9).2.2.2.2.2.2.1, (CE.out _ hb9).2.2.2.2.2.2.2, (CE.out _ hb9).2.2.1, (CE.out _ hb9).2.2.2.1⟩) (fun hHeld => ?_)
         clear hK K
         (try simp only [Act.put]);try simp only [sA,sZ,sS]
         refine rU 42 _ _ ?_
         (try simp only [Act.put]);try simp only [sA,sZ,sS]
         refine rU 43 _ _ ?_
         (try simp only [Act.put]);try simp only [sA,sZ,sS]
         refine rS 44 ?_ ?_ ?_ ?_;rotate_left 1
         ·simp only [gA,gS,gZ]; exact rfl
         ·rfl
         (try simp only [Act.put]);try simp only [sA,sZ,sS]
         refine rS 45 ?_ ?_ ?_ ?_;rotate_left 1
         ·simp only [gA,gS,gZ]; exact rfl
         ·rfl
         (try simp only [Act.put]);try simp only [sA,sZ,sS]
         refine rS 46 ?_ ?_ ?_ ?_;rotate_left 1
         ·simp only [gA,gS,gZ]; exact rfl
         ·rfl
         (try simp only [Act.put]);try simp only [sA,sZ,sS]
         refine rS 47 ?_ ?_ ?_ ?_;rotate_left 1
         ·simp only [gA,gS,gZ]; exact rfl
         ·rfl
         (try simp only [Act.put]);try simp only [sA,sZ,sS]
         refine rU 48 _ _ ?_
         (try simp only [Act.put]);try simp only [sA,sZ,sS]
         refine rU 49 _ _ ?_
         (try simp only [Act.put]);try simp only [sA,sZ,sS]
         refine rU 50 _ _ ?_
         (try simp only [Act.put]);try simp only [sA,sZ,sS]
         refine wpAnyH_done (by kernel_rfl) ?_ _
         refine NoPanic.normal ?_
         obtain ⟨-, -, -, q3, -⟩ := CE.out _ hb9
         have FB := Lib.hid (HBW6.out.trans (hb9.mono HBW6.out.size))
         have hct := HCNT.out
         simp at hct
         have HCT := Lib.hid hct
         clear hct
         go_wp2
         go_round
         case rel => exact ⟨i + 1, by omega, by go_num, by rw [HCT.out] <;> go_num, FB.out⟩
         case measure => simp [intOf]; omega
        | true =>
         have heh : eh = !ru := by have := HH.out; simpa using this
         subst heh
         refine wp_region_noPanic ?_
         refine wp_region_held_drew (S := fun w' => w'.cell? ⟨mb, 1, none⟩ = some (.slice (some ⟨tb, 0, none⟩) SL tc) ∧ w'.cell? ⟨tb, t * 9 + 6 + ti, none⟩ = some (.bool ef) ∧ w'.cell? ⟨tb, u * 9 + 6 + uj, none⟩ = some (.bool ef) ∧ w'.cell? ⟨xb, 2, none⟩ = some (.bool ef) ∧ w'.cell? ⟨xb, 3, none⟩ = some (.bool (!ru))) (by kernel_rfl) (⟨(CE.out _ hb8d).2.2.2.2.2.1, (CE.out _ hb8d).2.2.2.2.2.2.1, (CE.out _ hb8d).2.2.2.2.2.2.2, (CE.out _ hb8d).2.2.1, (CE.out _ hb8d).2.2.2.1⟩) (fun hHeld => ?_)
         refine rU 0 _ _ ?_
         (try simp only [Act.put]);try simp only [sA,sZ,sS]
         refine rU 1 _ _ ?_
         (try simp only [Act.put]);try simp only [sA,sZ,sS]
         refine rU 2 _ _ ?_
         (try simp only [Act.put]);try simp only [sA,sZ,sS]
         refine rU 3 _ _ ?_
         (try simp only [Act.put]);try simp only [sA,sZ,sS]
         refine rU 4 _ _ ?_
         (try simp only [Act.put]);try simp only [sA,sZ,sS]
         refine rU 5 _ _ ?_
         (try simp only [Act.put]);try simp only [sA,sZ,sS]
         refine rU 6 _ _ ?_
         (try simp only [Act.put]);try simp only [sA,sZ,sS]
         refine rU 7 _ _ ?_
         (try simp only [Act.put]);try simp only [sA,sZ,sS]
         refine rU 8 _ _ ?_
         (try simp only [Act.put]);try simp only [sA,sZ,sS]
         refine rU 9 _ _ ?_
         (try simp only [Act.put]);try simp only [sA,sZ,sS]
         refine rU 10 _ _ ?_
         (try simp only [Act.put]);try simp only [sA,sZ,sS]
         refine rU 11 _ _ ?_
         (try simp only [Act.put]);try simp only [sA,sZ,sS]
         refine rU 12 _ _ ?_
         (try simp only [Act.put]);try simp only [sA,sZ,sS]
         refine rU 13 _ _ ?_
         (try simp only [Act.put]);try simp only [sA,sZ,sS]
         refine rU 14 _ _ ?_
         (try simp only [Act.put]);try simp only [sA,sZ,sS]
         refine rU 15 _ _ ?_
         (try simp only [Act.put]);try simp only [sA,sZ,sS]
         refine rU 16 _ _ ?_
         (try simp only [Act.put]);try simp only [sA,sZ,sS]
         refine rU 17 _ _ ?_
         (try simp only [Act.put]);try simp only [sA,sZ,sS]
         refine rU 18 _ _ ?_
         (try simp only [Act.put]);try simp only [sA,sZ,sS]
         refine rU 19 _ _ ?_
         (try simp only [Act.put]);try simp only [sA,sZ,sS]
         refine rU 20 _ _ ?_
         (try simp only [Act.put]);try simp only [sA,sZ,sS]
         refine rU 21 _ _ ?_
         (try simp only [Act.put]);try simp only [sA,sZ,sS]
         refine rU 22 _ _ ?_
         (try simp only [Act.put]);try simp only [sA,sZ,sS]
         refine rU 23 _ _ ?_
         (try simp only [Act.put]);try simp only [sA,sZ,sS]
         refine rU 24 _ _ ?_
         (try simp only [Act.put]);try simp only [sA,sZ,sS]
         refine rU 25 _ _ ?_
         (try simp only [Act.put]);try simp only [sA,sZ,sS]
         refine rU 26 _ _ ?_
         (try simp only [Act.put]);try simp only [sA,sZ,sS]
         refine rU 27 _ _ ?_
         (try simp only [Act.put]);try simp only [sA,sZ,sS]
         refine rU 28 _ _ ?_
         (try simp only [Act.put]);try simp only [sA,sZ,sS]
         refine rU 29 _ _ ?_
         (try simp only [Act.put]);try simp only [sA,sZ,sS]
         refine rU 30 _ _ ?_
         (try simp only [Act.put]);try simp only [sA,sZ,sS]
         refine rU 31 _ _ ?_
         (try simp only [Act.put]);try simp only [sA,sZ,sS]
         refine rU 32 _ _ ?_
         (try simp only [Act.put]);try simp only [sA,sZ,sS]
         refine rU 33 _ _ ?_
         (try simp only [Act.put]);try simp only [sA,sZ,sS]
         refine rU 34 _ _ ?_
         (try simp only [Act.put]);try simp only [sA,sZ,sS]
         refine rU 35 _ _ ?_
         (try simp only [Act.put]);try simp only [sA,sZ,sS]
         refine rU 36 _ _ ?_
         (try simp only [Act.put]);try simp only [sA,sZ,sS]
         refine rU 37 _ _ ?_
         (try simp only [Act.put]);try simp only [sA,sZ,sS]
         refine rU 38 _ _ ?_
         (try simp only [Act.put]);try simp only [sA,sZ,sS]
         refine rU 39 _ _ ?_
         (try simp only [Act.put]);try simp only [sA,sZ,sS]
         refine rU 40 _ _ ?_
         (try simp only [Act.put]);try simp only [sA,sZ,sS]
         refine reg_call 41 ?_ (by kernel_rfl) ?_ (fun K hK => ?_);rotate_left 1
         ·simp only [gA,gS,gZ]; exact rfl
         go_simp
         refine (HRT.out _ hb8d).mono ?_
         rintro e wv ⟨rfl, hdv⟩
         have hb9_ := hb8d.trans (hdv.below.mono hb8d.size)
         clear hdv
         go_wp2_with fail
         refine hK.out _ _ (⟨(CE.out _ hb9_).2.2.2.2.2.1, (CE.out _ hb9_).2.2.2.2.2.2.1, (CE.out _ hb9_).2.2.2.2.2.2.2, (CE.out _ hb9_).2.2.1, (CE.out _ hb9_).2.2.2.1⟩) (fun hHeld => ?_)
         clear hK K
         (try simp only [Act.put]);try simp only [sA,sZ,sS]
         refine rU 42 _ _ ?_
         (try simp only [Act.put]);try simp only [sA,sZ,sS]
         refine rU 43 _ _ ?_
         (try simp only [Act.put]);try simp only [sA,sZ,sS]
         refine rU 44 _ _ ?_
         (try simp only [Act.put]);try simp only [sA,sZ,sS]
         refine rU 45 _ _ ?_
         (try simp only [Act.put]);try simp only [sA,sZ,sS]
         refine reg_call 46 ?_ (by kernel_rfl) ?_ (fun K hK => ?_);rotate_left 1
         ·simp only [gA,gS,gZ]; exact rfl
         go_simp
         refine (HRU.out _ hb9_).mono ?_
         rintro e wv ⟨rfl, hdv⟩
         have hb9 := hb9_.trans (hdv.below.mono hb9_.size)
         clear hdv
         go_wp2_with fail
         refine hK.out _ _ (⟨(CE.out _ hb9).2.2.2.2.2.1, (CE.out _ hb9).2.2.2.2.2.2.1, (CE.out _ hb9).2.2.2.2.2.2.2, (CE.out _ hb9).2.2.1, (CE.out _ hb9).2.2.2.1⟩) (fun hHeld => ?_)
         clear hK K
         (try simp only [Act.put]);try simp only [sA,sZ,sS]
         refine rU 47 _ _ ?_
         (try simp only [Act.put]);try simp only [sA,sZ,sS]
         refine rU 48 _ _ ?_
         (try simp only [Act.put]);try simp only [sA,sZ,sS]
         refine rU 49 _ _ ?_
         (try simp only [Act.put]);try simp only [sA,sZ,sS]
         refine rU 50 _ _ ?_
         (try simp only [Act.put]);try simp only [sA,sZ,sS]
         refine wpAnyH_done (by kernel_rfl) ?_ _
         refine NoPanic.normal ?_
         cases ru with
         | false =>
          obtain ⟨-, -, -, q3, -⟩ := CE.out _ hb9
          have FB := Lib.hid (HBW6.out.trans (hb9.mono HBW6.out.size))
          have hct := HCNT.out
          simp at hct
          have HCT := Lib.hid hct
          clear hct
          go_wp2
          go_round
          case rel => exact ⟨i + 1, by omega, by go_num, by rw [HCT.out] <;> go_num, FB.out⟩
          case measure => simp [intOf]; omega
         | true =>
          obtain ⟨-, -, -, q3, -⟩ := CE.out _ hb9
          have FB := Lib.hid (HBW6.out.trans (hb9.mono HBW6.out.size))
          have hct := HCNT.out
          simp at hct
          have HCT := Lib.hid hct
          clear hct
          go_wp2
          go_round
          case rel => exact ⟨i + 1, by omega, by go_num, by rw [HCT.out] <;> go_num, FB.out⟩
          case measure => simp [intOf]; omega
      ·
       as_aux_lemma =>
        have hg1 : decide (xa > ea) = false := decide_eq_false (by omega)
        have hg4 : decide (ea < xa) = false := decide_eq_false (by omega)
        have hg2 : (xa == ea) = false := by simpa using hxa
        refine wp_region_noPanic ?_
        refine wp_region_held_drew (S := fun w' => w'.cell? ⟨xb, 0, none⟩ = some (.int .i64 ea) ∧ w'.cell? ⟨xb, 1, none⟩ = some (.int .i64 eb) ∧ w'.cell? ⟨el, 0, none⟩ = some (.slice (some ⟨eg, 0, none⟩) len ec) ∧ w'.cell? ⟨eg, k * 4, none⟩ = some (.int .i64 xa) ∧ w'.cell? ⟨eg, k * 4 + 1, none⟩ = some (.int .i64 xc)) (by kernel_rfl) (⟨(CE.out _ (Below.refl w6'.heap.size w6').drew').1, (CE.out _ (Below.refl w6'.heap.size w6').drew').2.1, (CE.out _ (Below.refl w6'.heap.size w6').drew').2.2.2.2.1, (CX.out _ (Below.refl w6'.heap.size w6').drew').1, (CX.out _ (Below.refl w6'.heap.size w6').drew').2⟩) (fun hHeld => ?_)
        refine rU 0 _ _ ?_
        (try simp only [Act.put]);try simp only [sA,sZ,sS]
        refine rU 1 _ _ ?_
        (try simp only [Act.put]);try simp only [sA,sZ,sS]
        refine rU 2 _ _ ?_
        (try simp only [Act.put]);try simp only [sA,sZ,sS]
        refine rU 3 _ _ ?_
        (try simp only [Act.put]);try simp only [sA,sZ,sS]
        refine rU 4 _ _ ?_
        (try simp only [Act.put]);try simp only [sA,sZ,sS]
        refine rU 5 _ _ ?_
        (try simp only [Act.put]);try simp only [sA,sZ,sS]
        refine rU 6 _ _ ?_
        (try simp only [Act.put]);try simp only [sA,sZ,sS]
        refine rU 7 _ _ ?_
        (try simp only [Act.put]);try simp only [sA,sZ,sS]
        refine rU 8 _ _ ?_
        (try simp only [Act.put]);try simp only [sA,sZ,sS]
        refine rU 9 _ _ ?_
        (try simp only [Act.put]);try simp only [sA,sZ,sS]
        refine rU 10 _ _ ?_
        (try simp only [Act.put]);try simp only [sA,sZ,sS]
        refine rU 11 _ _ ?_
        (try simp only [Act.put]);try simp only [sA,sZ,sS]
        refine rU 12 _ _ ?_
        (try simp only [Act.put]);try simp only [sA,sZ,sS]
        refine rU 13 _ _ ?_
        (try simp only [Act.put]);try simp only [sA,sZ,sS]
        refine rU 14 _ _ ?_
        (try simp only [Act.put]);try simp only [sA,sZ,sS]
        refine rU 15 _ _ ?_
        (try simp only [Act.put]);try simp only [sA,sZ,sS]
        refine rU 16 _ _ ?_
        (try simp only [Act.put]);try simp only [sA,sZ,sS]
        refine rU 17 _ _ ?_
        (try simp only [Act.put]);try simp only [sA,sZ,sS]
        refine rU 18 _ _ ?_
        (try simp only [Act.put]);try simp only [sA,sZ,sS]
        refine rU 19 _ _ ?_
        (try simp only [Act.put]);try simp only [sA,sZ,sS]
        refine rU 20 _ _ ?_
        (try simp only [Act.put]);try simp only [sA,sZ,sS]
        refine rU 21 _ _ ?_
        (try simp only [Act.put]);try simp only [sA,sZ,sS]
        refine rU 22 _ _ ?_
        (try simp only [Act.put]);try simp only [sA,sZ,sS]
        refine rU 23 _ _ ?_
        (try simp only [Act.put]);try simp only [sA,sZ,sS]
        refine rU 24 _ _ ?_
        (try simp only [Act.put]);try simp only [sA,sZ,sS]
        refine rU 25 _ _ ?_
        (try simp only [Act.put]);try simp only [sA,sZ,sS]
        refine rU 26 _ _ ?_
        (try simp only [Act.put]);try simp only [sA,sZ,sS]
        refine rU 27 _ _ ?_
        (try simp only [Act.put]);try simp only [sA,sZ,sS]
        refine rU 28 _ _ ?_
        (try simp only [Act.put]);try simp only [sA,sZ,sS]
        refine rS 29 ?_ ?_ ?_ ?_;rotate_left 1
        ·simp only [gA,gS,gZ]; exact rfl
        ·rfl
        (try simp only [Act.put]);try simp only [sA,sZ,sS]
        refine rS 30 ?_ ?_ ?_ ?_;rotate_left 1
        ·simp only [gA,gS,gZ]; exact rfl
        ·rfl
        (try simp only [Act.put]);try simp only [sA,sZ,sS]
        refine rS 31 ?_ ?_ ?_ ?_;rotate_left 1
        ·simp only [gA,gS,gZ]; exact rfl
        ·rfl
        (try simp only [Act.put]);try simp only [sA,sZ,sS]
        refine rS 32 ?_ ?_ ?_ ?_;rotate_left 1
        ·simp only [gA,gS,gZ]; exact rfl
        ·rfl
        (try simp only [Act.put]);try simp only [sA,sZ,sS]
        refine rS 33 ?_ ?_ ?_ ?_;rotate_left 1
        ·simp only [gA,gS,gZ]; exact rfl
        ·rfl
        (try simp only [Act.put]);try simp only [sA,sZ,sS]
        refine rS 34 ?_ ?_ ?_ ?_;rotate_left 1
        ·simp only [gA,gS,gZ]; exact rfl
        ·rfl
        (try simp only [Act.put]);try simp only [sA,sZ,sS]
        refine rS 35 ?_ ?_ ?_ ?_;rotate_left 1
        ·simp only [gA,gS,gZ]; exact rfl
        ·rfl
        (try simp only [Act.put]);try simp only [sA,sZ,sS]
        refine rS 36 ?_ ?_ ?_ ?_;rotate_left 1
        ·simp only [gA,gS,gZ]; exact rfl
        ·rfl
        (try simp only [Act.put]);try simp only [sA,sZ,sS]
        refine rS 37 ?_ ?_ ?_ ?_;rotate_left 1
        ·simp only [gA,gS,gZ]; exact rfl
        ·rfl
        (try simp only [Act.put]);try simp only [sA,sZ,sS]
        refine rU 38 _ _ ?_
        (try simp only [Act.put]);try simp only [sA,sZ,sS]
        refine rU 39 _ _ ?_
        (try simp only [Act.put]);try simp only [sA,sZ,sS]
        refine rU 40 _ _ ?_
        (try simp only [Act.put]);try simp only [sA,sZ,sS]
        refine rU 41 _ _ ?_
        (try simp only [Act.put]);try simp only [sA,sZ,sS]
        refine wpAnyH_done (by kernel_rfl) ?_ _
        refine NoPanic.normal ?_
        have hb6d := (Below.refl w6'.heap.size w6').drew'
        obtain ⟨q0, q1, -⟩ := CE.out _ (Below.refl w6'.heap.size w6')
        go_wp2_with fail
        refine (HFD1.out _ hb6d).mono ?_
        rintro e w7' ⟨rfl, hd7⟩
        have hb7 := hb6d.trans (hd7.below.mono hb6d.size)
        clear q0 q1 hd7
        obtain ⟨q0, q1, -⟩ := CE.out _ hb7
        go_wp2_with fail
        refine (HFD2.out _ hb7).mono ?_
        rintro e w8' ⟨rfl, hd8⟩
        have hb8 := hb7.trans (hd8.below.mono hb7.size)
        clear q0 q1 hd8
        have hb8d := hb8.drew'
        go_wp2
        cases rt with
        | false =>
         have heh : eh = true := by have := HH.out; simpa using this
         subst heh
         refine wp_region_noPanic ?_
         refine wp_region_held_drew (S := fun w' => w'.cell? ⟨mb, 1, none⟩ = some (.slice (some ⟨tb, 0, none⟩) SL tc) ∧ w'.cell? ⟨tb, t * 9 + 6 + ti, none⟩ = some (.bool ef) ∧ w'.cell? ⟨tb, u * 9 + 6 + uj, none⟩ = some (.bool ef) ∧ w'.cell? ⟨xb, 2, none⟩ = some (.bool ef) ∧ w'.cell? ⟨xb, 3, none⟩ = some (.bool true)) (by kernel_rfl) (⟨(CE.out _ hb8d).2.2.2.2.2.1, (CE.out _ hb8d).2.2.2.2.2.2.1, (CE.out _ hb8d).2.2.2.2.2.2.2, (CE.out _ hb8d).2.2.1, (CE.out _ hb8d).2.2.2.1⟩) (fun hHeld => ?_)
         refine rU 0 _ _ ?_
         (try simp only [Act.put]);try simp only [sA,sZ,sS]
         refine rU 1 _ _ ?_
         (try simp only [Act.put]);try simp only [sA,sZ,sS]
         refine rU 2 _ _ ?_
         (try simp only [Act.put]);try simp only [sA,sZ,sS]
         refine rU 3 _ _ ?_
         (try simp only [Act.put]);try simp only [sA,sZ,sS]
         refine rU 4 _ _ ?_
         (try simp only [Act.put]);try simp only [sA,sZ,sS]
         refine rU 5 _ _ ?_
         (try simp only [Act.put]);try simp only [sA,sZ,sS]
         refine rU 6 _ _ ?_
         (try simp only [Act.put]);try simp only [sA,sZ,sS]
         refine rU 7 _ _ ?_
         (try simp only [Act.put]);try simp only [sA,sZ,sS]
         refine rU 8 _ _ ?_
         (try simp only [Act.put]);try simp only [sA,sZ,sS]
         refine rU 9 _ _ ?_
         (try simp only [Act.put]);try simp only [sA,sZ,sS]
         refine rU 10 _ _ ?_
         (try simp only [Act.put]);try simp only [sA,sZ,sS]
         refine rU 11 _ _ ?_
         (try simp only [Act.put]);try simp only [sA,sZ,sS]
         refine rU 12 _ _ ?_
         (try simp only [Act.put]);try simp only [sA,sZ,sS]
         refine rU 13 _ _ ?_
         (try simp only [Act.put]);try simp only [sA,sZ,sS]
         refine rU 14 _ _ ?_
         (try simp only [Act.put]);try simp only [sA,sZ,sS]
         refine rU 15 _ _ ?_
         (try simp only [Act.put]);try simp only [sA,sZ,sS]
         refine rU 16 _ _ ?_
         (try simp only [Act.put]);try simp only [sA,sZ,sS]
         refine rU 17 _ _ ?_
         (try simp only [Act.put]);try simp only [sA,sZ,sS]
         refine rU 18 _ _ ?_
         (try simp only [Act.put]);try simp only [sA,sZ,sS]
         refine rU 19 _ _ ?_
         (try simp only [Act.put]);try simp only [sA,sZ,sS]
         refine rU 20 _ _ ?_
         (try simp only [Act.put]);try simp only [sA,sZ,sS]
         refine rU 21 _ _ ?_
         (try simp only [Act.put]);try simp only [sA,sZ,sS]
         refine rU 22 _ _ ?_
         (try simp only [Act.put]);try simp only [sA,sZ,sS]
         refine rU 23 _ _ ?_
         (try simp only [Act.put]);try simp only [sA,sZ,sS]
         refine rU 24 _ _ ?_
         (try simp only [Act.put]);try simp only [sA,sZ,sS]
         refine rU 25 _ _ ?_
         (try simp only [Act.put]);try simp only [sA,sZ,sS]
         refine rU 26 _ _ ?_
         (try simp only [Act.put]);try simp only [sA,sZ,sS]
         refine rU 27 _ _ ?_
         (try simp only [Act.put]);try simp only [sA,sZ,sS]
         refine rU 28 _ _ ?_
         (try simp only [Act.put]);try simp only [sA,sZ,sS]
         refine rU 29 _ _ ?_
         (try simp only [Act.put]);try simp only [sA,sZ,sS]
         refine rU 30 _ _ ?_
         (try simp only [Act.put]);try simp only [sA,sZ,sS]
         refine rU 31 _ _ ?_
         (try simp only [Act.put]);try simp only [sA,sZ,sS]
         refine rU 32 _ _ ?_
         (try simp only [Act.put]);try simp only [sA,sZ,sS]
         refine rU 33 _ _ ?_
         (try simp only [Act.put]);try simp only [sA,sZ,sS]
         refine rU 34 _ _ ?_
         (try simp only [Act.put]);try simp only [sA,sZ,sS]
         refine rU 35 _ _ ?_
         (try simp only [Act.put]);try simp only [sA,sZ,sS]
         refine rU 36 _ _ ?_
         (try simp only [Act.put]);try simp only [sA,sZ,sS]
         refine rU 37 _ _ ?_
         (try simp only [Act.put]);try simp only [sA,sZ,sS]
         refine rU 38 _ _ ?_
         (try simp only [Act.put]);try simp only [sA,sZ,sS]
         refine rU 39 _ _ ?_
         (try simp only [Act.put]);try simp only [sA,sZ,sS]
         refine rU 40 _ _ ?_
         (try simp only [Act.put]);try simp only [sA,sZ,sS]
         refine reg_call 41 ?_ (by kernel_rfl) ?_ (fun K hK => ?_);rotate_left 1
         ·simp only [gA,gS,gZ]; exact rfl
         go_simp
         refine (HRT.out _ hb8d).mono ?_
         rintro e wv ⟨rfl, hdv⟩
         have hb9 := hb8d.trans (hdv.below.mono hb8d.size)
         clear hdv
         go_wp2_with fail
         refine hK.out _ _ (⟨(CE.out _ hb9).2.2.2.2.2.1, (CE.out _ hb9).2.2.2.2.2.2.1, (CE.out _ hb9).2.2.2.2.2.2.2, (CE.out _ hb9).2.2.1, (CE.out _ hb9).2.2.2.1⟩) (fun hHeld => ?_)
         clear hK K
         (try simp only [Act.put]);try simp only [sA,sZ,sS]
         refine rU 42 _ _ ?_
         (try simp only [Act.put]);try simp only [sA,sZ,sS]
         refine rU 43 _ _ ?_
         (try simp only [Act.put]);try simp only [sA,sZ,sS]
         refine rS 44 ?_ ?_ ?_ ?_;rotate_left 1
         ·simp only [gA,gS,gZ]; exact rfl
         ·rfl
         (try simp only [Act.put]);try simp only [sA,sZ,sS]
         refine rS 45 ?_ ?_ ?_ ?_;rotate_left 1
         ·simp only [gA,gS,gZ]; exact rfl
         ·rfl
         (try simp only [Act.put]);try simp only [sA,sZ,sS]
         refine rS 46 ?_ ?_ ?_ ?_;rotate_left 1
         ·simp only [gA,gS,gZ]; exact rfl
         ·rfl
         (try simp only [Act.put]);try simp only [sA,sZ,sS]
         refine rS 47 ?_ ?_ ?_ ?_;rotate_left 1
         ·simp only [gA,gS,gZ]; exact rfl
         ·rfl
         (try simp only [Act.put]);try simp only [sA,sZ,sS]
         refine rU 48 _ _ ?_
         (try simp only [Act.put]);try simp only [sA,sZ,sS]
         refine rU 49 _ _ ?_
         (try simp only [Act.put]);try simp only [sA,sZ,sS]
         refine rU 50 _ _ ?_
         (try simp only [Act.put]);try simp only [sA,sZ,sS]
         refine wpAnyH_done (by kernel_rfl) ?_ _
         refine NoPanic.normal ?_
         obtain ⟨-, -, -, q3, -⟩ := CE.out _ hb9
         have FB := Lib.hid (HBW6.out.trans (hb9.mono HBW6.out.size))
         have hct := HCNT.out
         simp at hct
         have HCT := Lib.hid hct
         clear hct
         go_wp2
         go_round
         case rel => exact ⟨i + 1, by omega, by go_num, by rw [HCT.out] <;> go_num, FB.out⟩
         case measure => simp [intOf]; omega
        | true =>
         have heh : eh = !ru := by have := HH.out; simpa using this
         subst heh
         refine wp_region_noPanic ?_
         refine wp_region_held_drew (S := fun w' => w'.cell? ⟨mb, 1, none⟩ = some (.slice (some ⟨tb, 0, none⟩) SL tc) ∧ w'.cell? ⟨tb, t * 9 + 6 + ti, none⟩ = some (.bool ef) ∧ w'.cell? ⟨tb, u * 9 + 6 + uj, none⟩ = some (.bool ef) ∧ w'.cell? ⟨xb, 2, none⟩ = some (.bool ef) ∧ w'.cell? ⟨xb, 3, none⟩ = some (.bool (!ru))) (by kernel_rfl) (⟨(CE.out _ hb8d).2.2.2.2.2.1, (CE.out _ hb8d).2.2.2.2.2.2.1, (CE.out _ hb8d).2.2.2.2.2.2.2, (CE.out _ hb8d).2.2.1, (CE.out _ hb8d).2.2.2.1⟩) (fun hHeld => ?_)
         refine rU 0 _ _ ?_
         (try simp only [Act.put]);try simp only [sA,sZ,sS]
         refine rU 1 _ _ ?_
         (try simp only [Act.put]);try simp only [sA,sZ,sS]
         refine rU 2 _ _ ?_
         (try simp only [Act.put]);try simp only [sA,sZ,sS]
         refine rU 3 _ _ ?_
         (try simp only [Act.put]);try simp only [sA,sZ,sS]
         refine rU 4 _ _ ?_
         (try simp only [Act.put]);try simp only [sA,sZ,sS]
         refine rU 5 _ _ ?_
         (try simp only [Act.put]);try simp only [sA,sZ,sS]
         refine rU 6 _ _ ?_
         (try simp only [Act.put]);try simp only [sA,sZ,sS]
         refine rU 7 _ _ ?_
         (try simp only [Act.put]);try simp only [sA,sZ,sS]
         refine rU 8 _ _ ?_
         (try simp only [Act.put]);try simp only [sA,sZ,sS]
         refine rU 9 _ _ ?_
         (try simp only [Act.put]);try simp only [sA,sZ,sS]
         refine rU 10 _ _ ?_
         (try simp only [Act.put]);try simp only [sA,sZ,sS]
         refine rU 11 _ _ ?_
         (try simp only [Act.put]);try simp only [sA,sZ,sS]
         refine rU 12 _ _ ?_
         (try simp only [Act.put]);try simp only [sA,sZ,sS]
         refine rU 13 _ _ ?_
         (try simp only [Act.put]);try simp only [sA,sZ,sS]
         refine rU 14 _ _ ?_
         (try simp only [Act.put]);try simp only [sA,sZ,sS]
         refine rU 15 _ _ ?_
         (try simp only [Act.put]);try simp only [sA,sZ,sS]
         refine rU 16 _ _ ?_
         (try simp only [Act.put]);try simp only [sA,sZ,sS]
         refine rU 17 _ _ ?_
         (try simp only [Act.put]);try simp only [sA,sZ,sS]
         refine rU 18 _ _ ?_
         (try simp only [Act.put]);try simp only [sA,sZ,sS]
         refine rU 19 _ _ ?_
         (try simp only [Act.put]);try simp only [sA,sZ,sS]
         refine rU 20 _ _ ?_
         (try simp only [Act.put]);try simp only [sA,sZ,sS]
         refine rU 21 _ _ ?_
         (try simp only [Act.put]);try simp only [sA,sZ,sS]
         refine rU 22 _ _ ?_
         (try simp only [Act.put]);try simp only [sA,sZ,sS]
         refine rU 23 _ _ ?_
         (try simp only [Act.put]);try simp only [sA,sZ,sS]
         refine rU 24 _ _ ?_
         (try simp only [Act.put]);try simp only [sA,sZ,sS]
         refine rU 25 _ _ ?_
         (try simp only [Act.put]);try simp only [sA,sZ,sS]
         refine rU 26 _ _ ?_
         (try simp only [Act.put]);try simp only [sA,sZ,sS]
         refine rU 27 _ _ ?_
         (try simp only [Act.put]);try simp only [sA,sZ,sS]
         refine rU 28 _ _ ?_
         (try simp only [Act.put]);try simp only [sA,sZ,sS]
         refine rU 29 _ _ ?_
         (try simp only [Act.put]);try simp only [sA,sZ,sS]
         refine rU 30 _ _ ?_
         (try simp only [Act.put]);try simp only [sA,sZ,sS]
         refine rU 31 _ _ ?_
         (try simp only [Act.put]);try simp only [sA,sZ,sS]
         refine rU 32 _ _ ?_
         (try simp only [Act.put]);try simp only [sA,sZ,sS]
         refine rU 33 _ _ ?_
         (try simp only [Act.put]);try simp only [sA,sZ,sS]
         refine rU 34 _ _ ?_
         (try simp only [Act.put]);try simp only [sA,sZ,sS]
         refine rU 35 _ _ ?_
         (try simp only [Act.put]);try simp only [sA,sZ,sS]
         refine rU 36 _ _ ?_
         (try simp only [Act.put]);try simp only [sA,sZ,sS]
         refine rU 37 _ _ ?_
         (try simp only [Act.put]);try simp only [sA,sZ,sS]
         refine rU 38 _ _ ?_
         (try simp only [Act.put]);try simp only [sA,sZ,sS]
         refine rU 39 _ _ ?_
         (try simp only [Act.put]);try simp only [sA,sZ,sS]
         refine rU 40 _ _ ?_
         (try simp only [Act.put]);try simp only [sA,sZ,sS]
         refine reg_call 41 ?_ (by kernel_rfl) ?_ (fun K hK => ?_);rotate_left 1
         ·simp only [gA,gS,gZ]; exact rfl
         go_simp
         refine (HRT.out _ hb8d).mono ?_
         rintro e wv ⟨rfl, hdv⟩
         have hb9_ := hb8d.trans (hdv.below.mono hb8d.size)
         clear hdv
         go_wp2_with fail
         refine hK.out _ _ (⟨(CE.out _ hb9_).2.2.2.2.2.1, (CE.out _ hb9_).2.2.2.2.2.2.1, (CE.out _ hb9_).2.2.2.2.2.2.2, (CE.out _ hb9_).2.2.1, (CE.out _ hb9_).2.2.2.1⟩) (fun hHeld => ?_)
         clear hK K
         (try simp only [Act.put]);try simp only [sA,sZ,sS]
         refine rU 42 _ _ ?_
         (try simp only [Act.put]);try simp only [sA,sZ,sS]
         refine rU 43 _ _ ?_
         (try simp only [Act.put]);try simp only [sA,sZ,sS]
         refine rU 44 _ _ ?_
         (try simp only [Act.put]);try simp only [sA,sZ,sS]
         refine rU 45 _ _ ?_
         (try simp only [Act.put]);try simp only [sA,sZ,sS]
         refine reg_call 46 ?_ (by kernel_rfl) ?_ (fun K hK => ?_);rotate_left 1
         ·simp only [gA,gS,gZ]; exact rfl
         go_simp
         refine (HRU.out _ hb9_).mono ?_
         rintro e wv ⟨rfl, hdv⟩
         have hb9 := hb9_.trans (hdv.below.mono hb9_.size)
         clear hdv
         go_wp2_with fail
         refine hK.out _ _ (⟨(CE.out _ hb9).2.2.2.2.2.1, (CE.out _ hb9).2.2.2.2.2.2.1, (CE.out _ hb9).2.2.2.2.2.2.2, (CE.out _ hb9).2.2.1, (CE.out _ hb9).2.2.2.1⟩) (fun hHeld => ?_)
         clear hK K
         (try simp only [Act.put]);try simp only [sA,sZ,sS]
         refine rU 47 _ _ ?_
         (try simp only [Act.put]);try simp only [sA,sZ,sS]
         refine rU 48 _ _ ?_
         (try simp only [Act.put]);try simp only [sA,sZ,sS]
         refine rU 49 _ _ ?_
         (try simp only [Act.put]);try simp only [sA,sZ,sS]
         refine rU 50 _ _ ?_
         (try simp only [Act.put]);try simp only [sA,sZ,sS]
         refine wpAnyH_done (by kernel_rfl) ?_ _
         refine NoPanic.normal ?_
         cases ru with
         | false =>
          obtain ⟨-, -, -, q3, -⟩ := CE.out _ hb9
          have FB := Lib.hid (HBW6.out.trans (hb9.mono HBW6.out.size))
          have hct := HCNT.out
          simp at hct
          have HCT := Lib.hid hct
          clear hct
          go_wp2
          go_round
          case rel => exact ⟨i + 1, by omega, by go_num, by rw [HCT.out] <;> go_num, FB.out⟩
          case measure => simp [intOf]; omega
         | true =>
          obtain ⟨-, -, -, q3, -⟩ := CE.out _ hb9
          have FB := Lib.hid (HBW6.out.trans (hb9.mono HBW6.out.size))
          have hct := HCNT.out
          simp at hct
          have HCT := Lib.hid hct
          clear hct
          go_wp2
          go_round
          case rel => exact ⟨i + 1, by omega, by go_num, by rw [HCT.out] <;> go_num, FB.out⟩
          case measure => simp [intOf]; omega
    ·
     as_aux_lemma =>
      obtain rfl : i = len := by omega
      have hyd : decide ((i : Int) < (i : Int)) = false := decide_eq_false (by omega)
      have hcn : ((E.take i).filter (fun e => e.h)).length = hlb := by
       rw [show E.take i = E from by rw [← HLEN.out]; exact List.take_length, HE2.out, HHLB.out]
      rw [hcn]
      have HBW := Lib.hid hbw
      clear hcn hbw
      go_wp2
      go_loopw [22, 23, 24, 25, 26, 27, 28, 29, 214] (fun _ _ _ _ _ _ _ _ iv wr => ∃ v : Nat, v ≤ hlb ∧ iv = .int .i64 (v : Int) ∧ Below WC.heap.size WC wr) (fun _ _ _ _ _ _ _ _ iv _ => hlb - (intOf iv).toNat)
      case atStart => exact ⟨0, Nat.zero_le _, rfl, HBW.out⟩
      case round =>
       obtain ⟨v, hv, rfl, hbw⟩ := hrel
       by_cases hlt : v < hlb
       ·
        have hyd : decide ((v : Int) < (hlb : Int)) = true := decide_eq_true (by omega)
        obtain ⟨m, hm⟩ : ∃ x, (v + 1) % hlb = x := ⟨_, rfl⟩
        have hml : m < hlb := by rw [← hm]; exact Nat.mod_lt _ hlb0
        have hll : (hullL (borderM S)).length = hlb := by rw [hullL_len]; exact HHLB.out
        obtain ⟨pa, hpa'⟩ : ∃ x, (hullL (borderM S))[v]? = some x := ⟨_, List.getElem?_eq_getElem (by rw [hll]; exact hlt)⟩
        obtain ⟨pe, hpe⟩ : ∃ x, (hullL (borderM S))[m]? = some x := ⟨_, List.getElem?_eq_getElem (by rw [hll]; exact hml)⟩
        obtain ⟨t, u, ti, uj, hf1, hf2, hrt, hru⟩ := HRIM.out v pa pe hlt hpa' (by rw [hm]; exact hpe)
        have hl9 : hlb ≤ 16 := by have := border_le S; rw [HHLB.out] at this; omega
        have hmod : (IntKind.i64.wrap ((v : Int) + 1)).tmod (hlb : Int) = (m : Int) := by
         rw [show IntKind.i64.wrap ((v : Int) + 1) = (v : Int) + 1 by rw [IntKind.wrap_i64]; omega, mod_one, hm]
        have hmod2 : ((v : Int) + 1).tmod (hlb : Int) = (m : Int) := by
         rw [mod_one, hm]
        have CH := Lib.hid (show ∀ w', Below wr.heap.size wr w' → w'.cell? ⟨hg, v, none⟩ = some (.int .i64 pa) ∧ w'.cell? ⟨hg, m, none⟩ = some (.int .i64 pe) from fun w' hb => by
         have h := HBXH.out.below (hbw.trans (hb.mono hbw.size))
         exact ⟨h.c v _ (intCells_get hpa'), h.c m _ (intCells_get hpe)⟩)
        have HRD := Lib.hid (show ∀ w', Below wr.heap.size wr w' → MeshR w' mb pb pc (some ⟨tb, 0, none⟩) tc (gridP gW gH) S from fun w' hb => (HGB.out.below (HBC.out.trans ((hbw.trans (hb.mono hbw.size)).mono HBC.out.size))).read)
        have HFD1 := Lib.hid (show ∀ w', Below wr.heap.size wr w' → Calls Try.prog 11 #[.pointer (some ⟨mb, 0, none⟩), .int .i64 pa, .int .i64 pe] w' fun e w'' => e = .returned (.tuple #[.int .i64 (t : Int), .int .i64 ti, .bool true]) ∧ Drew w' w'' from fun w' hb => by
         have := Find_any pa pe w' (HRD.out w' hb)
         unfold findV at this
         rw [hf1] at this
         exact this)
        have HFD2 := Lib.hid (show ∀ w', Below wr.heap.size wr w' → Calls Try.prog 11 #[.pointer (some ⟨mb, 0, none⟩), .int .i64 pe, .int .i64 pa] w' fun e w'' => e = .returned (.tuple #[.int .i64 (u : Int), .int .i64 uj, .bool true]) ∧ Drew w' w'' from fun w' hb => by
         have := Find_any pe pa w' (HRD.out w' hb)
         unfold findV at this
         rw [hf2] at this
         exact this)
        have HRT := Lib.hid (show ∀ w', Below wr.heap.size wr w' → Calls Try.prog 12 #[.pointer (some ⟨mb, 0, none⟩), .int .i64 (t : Int)] w' fun e w'' => e = .returned (.bool true) ∧ Drew w' w'' from fun w' hb => by
         have := Real_any (t : Int) w' (HRD.out w' hb)
         rw [hrt] at this
         exact this)
        have HRU := Lib.hid (show ∀ w', Below wr.heap.size wr w' → Calls Try.prog 12 #[.pointer (some ⟨mb, 0, none⟩), .int .i64 (u : Int)] w' fun e w'' => e = .returned (.bool false) ∧ Drew w' w'' from fun w' hb => by
         have := Real_any (u : Int) w' (HRD.out w' hb)
         rw [hru] at this
         exact this)
        have i1 : (0 : Int) ≤ (v : Int) := by omega
        have i2 : (v : Int) < (hlb : Int) := by omega
        have i3 : (0 : Int) ≤ (m : Int) := by omega
        have i4 : (m : Int) < (hlb : Int) := by omega
        have i5 : ¬ (hlb : Int) = 0 := by omega
        have hko : ((hlb : Int) == 0) = false := by simp; omega
        have HBWW := Lib.hid hbw
        clear hm hll hpa' hpe hf1 hf2 hrt hru hbw
        obtain ⟨q0, q1⟩ := CH.out _ (Below.refl wr.heap.size wr)
        go_wp2_with fail
        refine (HFD1.out _ (Below.refl _ _)).mono ?_
        rintro e v1 ⟨rfl, hd1⟩
        have hb1 := hd1.below
        clear q0 q1 hd1
        obtain ⟨q0, q1⟩ := CH.out _ hb1
        go_wp2_with fail
        refine (HFD2.out _ hb1).mono ?_
        rintro e v2 ⟨rfl, hd2⟩
        have hb2' := hb1.trans (hd2.below.mono hb1.size)
        clear q0 q1 hd2
        go_wp2_with fail
        refine (HRT.out _ hb2').mono ?_
        rintro e v3 ⟨rfl, hd3⟩
        have hb3 := hb2'.trans (hd3.below.mono hb2'.size)
        clear hd3
        go_wp2_with fail
        refine (HRU.out _ hb3).mono ?_
        rintro e v4 ⟨rfl, hd4⟩
        have FB := Lib.hid (HBWW.out.trans ((hb3.trans (hd4.below.mono hb3.size)).mono HBWW.out.size))
        clear hd4
        go_wp2
        go_round
        case rel => exact ⟨v + 1, by omega, by go_num, FB.out⟩
        case measure => simp [intOf]; omega
       ·
        obtain rfl : v = hlb := by omega
        have hyd : decide ((v : Int) < (v : Int)) = false := decide_eq_false (by omega)
        have HBWW := Lib.hid hbw
        clear hbw
        go_wp2
        obtain ⟨hDB, hW3B, hD2'⟩ := HDB.out
        have hbB := HBC.out.trans (HBWW.out.mono HBC.out.size)
        have hd1 : wr.heap[D1]? = some (.deferred (some [])) := (hbB.block D1 (by omega)).trans HK1.out
        have hd2 : wr.heap[D2]? = some (.deferred (some [])) := (hbB.block D2 hDB).trans HK2.out
        have hwB := HB0.out.trans (hbB.mono HB0.out.size)
        have hww5 : w.heap.size ≤ w5.heap.size := HB5.out.size
        refine leaves_marks _ _ (MarksOk.cons (r := D2) hd2 (fun d hd e => ?_) (MarksOk.cons (r := D1) hd1 (fun d hd => by cases hd) .nil)) (fun W' g1 g2 g3 g4 g5 => ?_)
        ·simp only [List.mem_singleton] at hd
         subst hd
         simp only [Target.collected.injEq] at e
         omega
        ·have hBf : Below w.heap.size wr W' := ⟨g1, g2, g3, by rw [g4]; exact Nat.le_refl _, fun k hk => g5 k (fun d hd e => by
          simp only [List.mem_cons, List.not_mem_nil, or_false] at hd
          rcases hd with rfl | rfl <;> (simp only [Target.collected.injEq] at e; omega))⟩
         exact ⟨_, results_tmp rfl _ _ _, rfl, hwB.trans hBf⟩
end Go.Proofs.Ytecnnpkpgbbfkaa
