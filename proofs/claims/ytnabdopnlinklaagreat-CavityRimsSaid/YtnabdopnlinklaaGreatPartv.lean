/- WalkFinds: what the program answers. -/
import Derived.Test.YtnabdopnlinklaaGreatPartt
import Derived.Test.YtnabdopnlinklaaGreatPredG
import Derived.Test.YtnabdopnlinklaaGreatParth
import Derived.Test.YtnabdopnlinklaaGreatPartq
namespace Go.Proofs.YtnabdopnlinklaaGreat
open Go.RowKit Go.MagM
theorem GridIs.off {w : World} {B mb pb pc tb tc g W H bn : Nat} {F : Int → Int → Bool} {Bd : List (Nat × Nat)} {S : List TriM} (h : GridIs w B mb pb pc tb tc g W H bn F Bd S) {k : Nat} (hk : k < B) : MeshIn (fun b => b ≠ k) mb pb (some ⟨tb, 0, none⟩) := by
  refine ⟨by have := h.mesh.low.1; omega, by have := h.pts; omega, fun b hb => ?_⟩
  cases hb
  have := (h.mesh.row.lt tb rfl).1
  omega
end Go.Proofs.YtnabdopnlinklaaGreat
/- The statements' made (layer 11): a grid, and a point's place in it. Written by tools/cav8.py. -/
namespace Go.MagM
open Go.RowKit
theorem Turned.trans {a b c : World} {g : Nat} (h : Turned a b g) (k : Turned b c g) : Turned a c g := ⟨k.os.trans h.os, k.tape.trans h.tape, k.output.trans h.output, k.size.trans h.size, fun i hi => (k.block i hi).trans (h.block i hi)⟩
theorem TrIn.turned {w w' : World} {b g : Nat} {V : List (Int × Int × Int)} (h : TrIn w b V) (ht : Turned w w' g) (hne : b ≠ g) : TrIn w' b V := fun k x y z hk => by
 obtain ⟨h1, h2, h3⟩ := h k x y z hk
 have e := ht.block b hne
 exact ⟨(World.cell?_of_block (a := ⟨b, k * 3, none⟩) e).trans h1, (World.cell?_of_block (a := ⟨b, k * 3 + 1, none⟩) e).trans h2, (World.cell?_of_block (a := ⟨b, k * 3 + 2, none⟩) e).trans h3⟩
end Go.MagM
namespace Go.Proofs.YtnabdopnlinklaaGreat
open Go.RowKit Go.MagM Go.Maps
theorem GridIs.turned {w w' : World} {B mb pb pc tb tc g W H bn k : Nat} {F : Int → Int → Bool} {Bd : List (Nat × Nat)} {S : List TriM} (h : GridIs w B mb pb pc tb tc g W H bn F Bd S) (ht : Turned w w' k) (hk : k < B) : GridIs w' B mb pb pc tb tc g W H bn F Bd S := by
 have ho := h.off hk
 have h1 := h.mesh.low.1; have h2 := h.pts; have h3 := h.row
 exact ⟨h.mesh.turned ht (by omega) (by omega) (fun e => by have := (h.mesh.row.lt k e).1; omega), h.pts, h.built, h.tr.turned ht (by omega), h.row, h.hW, h.hH, h.hb⟩
set_option maxRecDepth 100000 in
set_option maxHeartbeats 16000000 in
theorem made_any (b0 f0 a0 a1 : Int) (w : World) : Calls Tryz.prog 13 #[.int .u32 b0, .int .u32 f0, .agg #[.int .i64 a0, .int .i64 a1]] w fun e w' =>
  ∃ (B mb pb pc tb tc g W H bn : Nat) (F : Int → Int → Bool) (Bd : List (Nat × Nat)) (S : List TriM) (x0 x1 x2 x3 : Int), e = .returned (.tuple #[.pointer (some ⟨mb, 0, none⟩), .agg #[.int .i64 (tame a0), .int .i64 (tame a1)], .agg #[.int .i64 x0, .int .i64 x1, .int .i64 x2, .int .i64 x3], .bool (x0 != 2)]) ∧ lookM (gridP W H) S (tame a0, tame a1) = (x0, x1, x2, x3) ∧ GridIs w' B mb pb pc tb tc g W H bn F Bd S ∧ w.heap.size ≤ B ∧ B ≤ w'.heap.size ∧ Below w.heap.size w w' := by
 obtain ⟨w1, hw1, pp, hb1, hs1⟩ := new_box w _ rfl [.int .i64 a0, .int .i64 a1] 24
 obtain ⟨w2, hw2, pa, hb2, hs2⟩ := new_box w1 _ rfl [.int .i64 0, .int .i64 0] 24
 obtain ⟨w3, hw3, pb', hb3, hs3⟩ := new_box w2 _ rfl [.int .i64 0, .int .i64 0, .int .i64 0, .int .i64 0] 28
 have hb12 : Below w.heap.size w w2 := hb1.trans (hb2.mono hb1.size)
 have hb13 : Below w.heap.size w w3 := hb12.trans (hb3.mono hb12.size)
 have PP := Lib.hid ((pp.below hb2).below hb3); have PA := Lib.hid (pa.below hb3); have PB := Lib.hid pb'
 have HB3 := Lib.hid hb13
 have HSZ := Lib.hid (And.intro hs1 (And.intro hs2 hs3))
 obtain ⟨p0, hp0⟩ : ∃ q, tame a0 = q := ⟨_, rfl⟩
 obtain ⟨p1, hp1⟩ : ∃ q, tame a1 = q := ⟨_, rfl⟩
 have hi0 : InP p0 := by rw [← hp0]; exact tame_in a0
 have hi1 : InP p1 := by rw [← hp1]; exact tame_in a1
 have HT := Lib.hid (fun W : World => Tame_any a0 a1 W)
 rw [hp0, hp1] at HT ⊢
 have HI := Lib.hid (And.intro hi0 hi1)
 clear pp pa pb' hb1 hb2 hb3 hb12 hb13 hs1 hs2 hs3 hp0 hp1 hi0 hi1
 go_enter Tryz.func13, Tryz.ntmps13
 go_wp2_with fail
 refine (Grid_any _ _ _ _ w3).mono ?_
 rintro e w4 ⟨mb, pb, pc, tb, tc, g, gn, gc, W, H, bn, F, Bd, S, rfl, -, hgi, hb4⟩
 have pp4 := PP.out.below hb4
 have y0 := pp4.c 0 _ rfl; have y1 := pp4.c 1 _ rfl
 have HB4 := Lib.hid hb4; have HGI := Lib.hid hgi
 clear hb4 hgi pp4
 go_wp2_with fail
 refine (HT.out w4).mono ?_
 rintro e w5 ⟨rfl, hb5⟩
 have hb35 : Below w3.heap.size w3 w5 := HB4.out.trans (hb5.mono HB4.out.size)
 have pp5 := PP.out.below hb35
 have z0 := pp5.c 0 _ rfl; have z1 := pp5.c 1 _ rfl
 have z2 := pp5.f 0 _ rfl; have z3 := pp5.f 1 _ rfl
 obtain ⟨w6, hw6⟩ : ∃ w6, setAll w5 w.heap.size 0 [.int .i64 p0, .int .i64 p1] = w6 := ⟨_, rfl⟩
 have pp6 : Box w6 w.heap.size [.int .i64 p0, .int .i64 p1] := by rw [← hw6]; exact pp5.setAll [.int .i64 p0, .int .i64 p1] rfl
 have ht6 : Turned w5 w6 w.heap.size := by rw [← hw6]; exact turned_setAll _ _ (Turned.refl _ _)
 have hz := HSZ.out
 have hgi6 := (HGI.out.below hb5).turned ht6 (by omega)
 have pa6 := (PA.out.below hb35).turned ht6 (by omega)
 have pb6 := (PB.out.below hb35).turned ht6 (by omega)
 have hb06 : Below w.heap.size w w6 := (HB3.out.trans (hb35.mono HB3.out.size)).trans (ht6.below (Nat.le_refl _))
 have hlk := grid_look hgi6.built hgi6.hW hgi6.hH hgi6.hb
 obtain ⟨⟨x0, x1, x2, x3⟩, hx⟩ : ∃ x, lookM (gridP W H) S (p0, p1) = x := ⟨_, rfl⟩
 have hlo := Look_any (p0, p1) w6 hgi6.read hgi6.inP HI.out hlk
 rw [hx] at hlo
 unfold placeV at hlo
 simp only [] at hlo
 have PX5 := Lib.hid pp5; have W6 := Lib.hid hw6; have PP6 := Lib.hid pp6; have HG6 := Lib.hid hgi6; have PA6 := Lib.hid pa6; have PB6 := Lib.hid pb6; have HB6 := Lib.hid hb06; have HLO := Lib.hid hlo; have HX := Lib.hid hx
 have HB36 := Lib.hid (show w3.heap.size ≤ w6.heap.size by rw [ht6.size]; exact hb35.size)
 have k0 := pp6.c 0 _ rfl; have k1 := pp6.c 1 _ rfl
 clear y0 y1 hb5 hb35 pp5 z0 z1 z2 z3 hw6 pp6 ht6 hgi6 pa6 pb6 hb06 hlk hlo hx hz
 go_wp2_with (with_reducible refine wpList_store_box rfl _ _ _ rfl [.int .i64 p0, .int .i64 p1] PX5.out rfl rfl (by kernel_rfl) (by simp) rfl W6.out ?_)
 refine HLO.out.mono ?_
 rintro e w7 ⟨rfl, hb7⟩
 obtain ⟨w8, hw8, px, hb8, hs8⟩ := new_box w7 _ rfl [.int .i64 x0, .int .i64 x1, .int .i64 x2, .int .i64 x3] 28
 have hb68 : Below w6.heap.size w6 w8 := hb7.trans (hb8.mono hb7.size)
 have pp8 := PP6.out.below hb68
 have hz := HSZ.out; have hz6 := HB36.out; have hz7 := hb7.size
 have pa8 := ((PA6.out.below hb68).drew)
 obtain ⟨w9, hw9⟩ : ∃ w9, setAll w8.drew w1.heap.size 0 [.int .i64 p0, .int .i64 p1] = w9 := ⟨_, rfl⟩
 have ht9 : Turned w8.drew w9 w1.heap.size := by rw [← hw9]; exact turned_setAll _ _ (Turned.refl _ _)
 have pa9 : Box w9 w1.heap.size [.int .i64 p0, .int .i64 p1] := by rw [← hw9]; exact pa8.setAll [.int .i64 p0, .int .i64 p1] rfl
 have pb9 := ((PB6.out.below hb68).drew).turned ht9 (by omega)
 obtain ⟨w10, hw10⟩ : ∃ w10, setAll w9 w2.heap.size 0 [.int .i64 x0, .int .i64 x1, .int .i64 x2, .int .i64 x3] = w10 := ⟨_, rfl⟩
 have ht10 : Turned w9 w10 w2.heap.size := by rw [← hw10]; exact turned_setAll _ _ (Turned.refl _ _)
 have pb10 : Box w10 w2.heap.size [.int .i64 x0, .int .i64 x1, .int .i64 x2, .int .i64 x3] := by rw [← hw10]; exact pb9.setAll [.int .i64 x0, .int .i64 x1, .int .i64 x2, .int .i64 x3] rfl
 have pa10 := pa9.turned ht10 (by omega)
 have pp9 := pp8.drew.turned ht9 (by omega)
 have pp10 := pp9.turned ht10 (by omega)
 have px9 := px.drew.turned ht9 (by omega)
 have px10 := px9.turned ht10 (by omega)
 have hg10 := ((HG6.out.below hb68).drew.turned ht9 (by omega)).turned ht10 (by omega)
 have hb10 : Below w.heap.size w w10 := (((HB6.out.trans (hb68.mono HB6.out.size)).drew').trans (ht9.below (by omega))).trans (ht10.below (by omega))
 have hsz10 : w3.heap.size ≤ w10.heap.size := by rw [ht10.size, ht9.size]; show _ ≤ w8.heap.size; have := hb68.size; omega
 have S8 := Lib.hid (show w8.cell? ⟨w.heap.size, 0, none⟩ = some (.int .i64 p0) ∧ w8.cell? ⟨w.heap.size, 1, none⟩ = some (.int .i64 p1) ∧ w8.cell? ⟨w7.heap.size, 0, none⟩ = some (.int .i64 x0) ∧ w8.cell? ⟨w7.heap.size, 1, none⟩ = some (.int .i64 x1) ∧ w8.cell? ⟨w7.heap.size, 2, none⟩ = some (.int .i64 x2) ∧ w8.cell? ⟨w7.heap.size, 3, none⟩ = some (.int .i64 x3) from ⟨pp8.c 0 _ rfl, pp8.c 1 _ rfl, px.c 0 _ rfl, px.c 1 _ rfl, px.c 2 _ rfl, px.c 3 _ rfl⟩)
 have S9 := Lib.hid (show w9.cell? ⟨w.heap.size, 0, none⟩ = some (.int .i64 p0) ∧ w9.cell? ⟨w.heap.size, 1, none⟩ = some (.int .i64 p1) ∧ w9.cell? ⟨w7.heap.size, 0, none⟩ = some (.int .i64 x0) ∧ w9.cell? ⟨w7.heap.size, 1, none⟩ = some (.int .i64 x1) ∧ w9.cell? ⟨w7.heap.size, 2, none⟩ = some (.int .i64 x2) ∧ w9.cell? ⟨w7.heap.size, 3, none⟩ = some (.int .i64 x3) from ⟨pp9.c 0 _ rfl, pp9.c 1 _ rfl, px9.c 0 _ rfl, px9.c 1 _ rfl, px9.c 2 _ rfl, px9.c 3 _ rfl⟩)
 have S10 := Lib.hid (show w10.cell? ⟨w.heap.size, 0, none⟩ = some (.int .i64 p0) ∧ w10.cell? ⟨w.heap.size, 1, none⟩ = some (.int .i64 p1) ∧ w10.cell? ⟨w7.heap.size, 0, none⟩ = some (.int .i64 x0) ∧ w10.cell? ⟨w7.heap.size, 1, none⟩ = some (.int .i64 x1) ∧ w10.cell? ⟨w7.heap.size, 2, none⟩ = some (.int .i64 x2) ∧ w10.cell? ⟨w7.heap.size, 3, none⟩ = some (.int .i64 x3) from ⟨pp10.c 0 _ rfl, pp10.c 1 _ rfl, px10.c 0 _ rfl, px10.c 1 _ rfl, px10.c 2 _ rfl, px10.c 3 _ rfl⟩)
 have PA8 := Lib.hid pa8; have W9 := Lib.hid hw9; have PB9 := Lib.hid pb9; have W10 := Lib.hid hw10
 have FIN := Lib.hid (And.intro hg10 (And.intro hb10 hsz10))
 have PZ := Lib.hid (And.intro pa10 pb10)
 clear hb7 hb8 hs8 hb68 pp8 hz hz6 hz7 pa8 hw9 ht9 pa9 pb9 hw10 ht10 pb10 pa10 pp9 pp10 px9 px10 hg10 hb10 hsz10 px k0 k1
 go_wp2
 refine wp_region_noPanic ?_
 refine wp_region_held_drew (S := fun w' => w'.cell? ⟨w.heap.size, 0, none⟩ = some (.int .i64 p0) ∧ w'.cell? ⟨w.heap.size, 1, none⟩ = some (.int .i64 p1) ∧ w'.cell? ⟨w7.heap.size, 0, none⟩ = some (.int .i64 x0) ∧ w'.cell? ⟨w7.heap.size, 1, none⟩ = some (.int .i64 x1) ∧ w'.cell? ⟨w7.heap.size, 2, none⟩ = some (.int .i64 x2) ∧ w'.cell? ⟨w7.heap.size, 3, none⟩ = some (.int .i64 x3)) (by kernel_rfl) (S8.out) (fun hHeld => ?_)
 refine rU 0 _ _ ?_
 (try simp only [Act.put]);try simp only [sA,sZ,sS]
 refine rU 1 _ _ ?_
 (try simp only [Act.put]);try simp only [sA,sZ,sS]
 refine rU 2 _ _ ?_
 (try simp only [Act.put]);try simp only [sA,sZ,sS]
 refine rU 3 _ _ ?_
 (try simp only [Act.put]);try simp only [sA,sZ,sS]
 refine rU 4 _ _ ?_
 (try simp only [Act.put]);try simp only [sA,sZ,sS]
 refine rU 5 _ _ ?_
 (try simp only [Act.put]);try simp only [sA,sZ,sS]
 refine rU 6 _ _ ?_
 (try simp only [Act.put]);try simp only [sA,sZ,sS]
 refine reg_call 7 ?_ (by kernel_rfl) ?_ (fun K hK => ?_);rotate_left 1
 ·simp only [gA,gS,gZ]; exact rfl
 refine wanted_go rfl ?_
 refine wp_store_box _ _ _ rfl [.int .i64 p0, .int .i64 p1] PA8.out rfl rfl (by kernel_rfl) (by simp) rfl W9.out ?_
 refine hK.out _ _ (S9.out) (fun hHeld => ?_)
 clear hK K
 (try simp only [Act.put]);try simp only [sA,sZ,sS]
 refine reg_call 8 ?_ (by kernel_rfl) ?_ (fun K hK => ?_);rotate_left 1
 ·simp only [gA,gS,gZ]; exact rfl
 refine wanted_go rfl ?_
 refine wp_store_box _ _ _ rfl [.int .i64 x0, .int .i64 x1, .int .i64 x2, .int .i64 x3] PB9.out rfl rfl (by kernel_rfl) (by simp) rfl W10.out ?_
 refine hK.out _ _ (S10.out) (fun hHeld => ?_)
 clear hK K
 (try simp only [Act.put]);try simp only [sA,sZ,sS]
 refine rU 9 _ _ ?_
 (try simp only [Act.put]);try simp only [sA,sZ,sS]
 refine wpAnyH_done (by kernel_rfl) ?_ _
 refine NoPanic.normal ?_
 have q0 := PZ.out.1.c 0 _ rfl; have q1 := PZ.out.1.c 1 _ rfl
 have r0 := PZ.out.2.c 0 _ rfl; have r1 := PZ.out.2.c 1 _ rfl; have r2 := PZ.out.2.c 2 _ rfl; have r3 := PZ.out.2.c 3 _ rfl
 go_wp2_with fail
 refine bodyPost_ret (v := .tuple #[.pointer (some ⟨mb, 0, none⟩), .agg #[.int .i64 p0, .int .i64 p1], .agg #[.int .i64 x0, .int .i64 x1, .int .i64 x2, .int .i64 x3], .bool (x0 != 2)]) ?_ rfl ?_
 ·simp [results, Tryz.results13, go_sem, q0, q1, r0, r1, r2, r3]
 ·exact ⟨_, mb, pb, pc, tb, tc, g, W, H, bn, F, Bd, S, x0, x1, x2, x3, rfl, HX.out, FIN.out.1, HB3.out.size, FIN.out.2.2, FIN.out.2.1⟩
end Go.Proofs.YtnabdopnlinklaaGreat
/- A mesh of which one thing is spoilt isn't sound. Pure but for the writes. -/
namespace Go.MagM
open Go.RowKit
section
variable {fa : Int → Int → Bool} {V : List (Int × Int × Int)} {S : List TriM}
theorem Surf.not_self (h : Surf fa V S) {t i j : Nat} {T : TriM} (hT : S[t]? = some T) (hi : i < 3) (hj : j < 3) : edgeV T j ≠ ((edgeV T i).2, (edgeV T i).1) := by
 have a0 : T.v1 ≠ T.v2 := h.apart hT (i := 0) (by omega)
 have a1 : T.v2 ≠ T.v0 := h.apart hT (i := 1) (by omega)
 have a2 : T.v0 ≠ T.v1 := h.apart hT (i := 2) (by omega)
 intro e
 obtain rfl | rfl | rfl : i = 0 ∨ i = 1 ∨ i = 2 := by omega
 all_goals (obtain rfl | rfl | rfl : j = 0 ∨ j = 1 ∨ j = 2 := by omega) <;> simp only [edgeV, Prod.mk.injEq] at e <;> omega
theorem Surf.other_ne (h : Surf fa V S) {t i u j : Nat} {T U : TriM} (hT : S[t]? = some T) (hi : i < 3) (hU : S[u]? = some U) (hj : j < 3) (he : edgeV U j = ((edgeV T i).2, (edgeV T i).1)) : u ≠ t := by
 rintro rfl
 rw [hT] at hU; cases hU
 exact h.not_self hT hi hj he
end
end Go.MagM
namespace Go.Proofs.YtnabdopnlinklaaGreat
open Go.RowKit Go.MagM
section
variable {fa : Int → Int → Bool} {V : List (Int × Int × Int)} {S : List TriM} {P : List (Int × Int)}
end
end Go.Proofs.YtnabdopnlinklaaGreat
namespace Go.MagM
open Go.RowKit
section
variable {p e : TypeId} {w : World} {lo mb pb pc g c n : Nat} {P : List (Int × Int)} {S : List TriM}
theorem MeshO.put (h : MeshO p e w lo mb pb pc (.slice (some ⟨g, 0, none⟩) n c) P S) (hn : S.length = n) {S' : List TriM} (o : Nat) (x y : Value) (hx : (triCells S)[o]? = some x) (hl : S'.length = S.length) (hs : (triCells S).set o y = triCells S') :
  w.cell? ⟨g, o, none⟩ = some x ∧ w.frozen? ⟨g, o, none⟩ = false ∧ MeshO p e (w.setCell ⟨g, o, none⟩ y) lo mb pb pc (.slice (some ⟨g, 0, none⟩) n c) P S' ∧ Mut w (w.setCell ⟨g, o, none⟩ y) mb (.slice (some ⟨g, 0, none⟩) n c) (.slice (some ⟨g, 0, none⟩) n c) := by
 subst hn
 have hb := owns_box h.row
 obtain ⟨h1, h2⟩ := h.setT (S' := S') o [y] hl hs
 exact ⟨hb.c _ _ hx, hb.f _ _ hx, h1, h2⟩
end
end Go.MagM
/- Dig in the statements' grids: where it begins. -/
namespace Go.Proofs.YtnabdopnlinklaaGreat
open Go.RowKit Go.MagM Go.Maps
/-- What a hole has at its beginning. -/
def StartIs (P : List (Int × Int)) (S : List TriM) (p : Int × Int) (x : Int × Int × Int × Int) (st : List Int) : Prop :=
 ∃ (t : Nat) (T : TriM), x.2.1 = (t : Int) ∧ S[t]? = some T ∧
  ((x.1 ≠ 1 ∧ st = [(t : Int)] ∧ ((realT T = true ∧ holdsT P T p = true ∧ firstK (fun k => decide (ptA P (T.v k).toNat = p)) = none ∧ firstK (fun k => decide (sideT P T k p = 0)) = none) ∨ (realT T = false ∧ ∃ j, j < 3 ∧ T.v j = -1 ∧ 0 < sideT P T j p))) ∨
  (x.1 = 1 ∧ ∃ k u : Nat, k < 3 ∧ T.n k = (u : Int) ∧ u < S.length ∧ u ≠ t ∧ x.2.2.1 = min (edgeV T k).1 (edgeV T k).2 ∧ x.2.2.2 = max (edgeV T k).1 (edgeV T k).2 ∧ st = [(t : Int), (u : Int)] ∧ realT T = true ∧ holdsT P T p = true ∧ firstK (fun k => decide (ptA P (T.v k).toNat = p)) = none ∧ firstK (fun k => decide (sideT P T k p = 0)) = some k))
theorem firstN_none_all {f : Nat → Bool} : ∀ {n : Nat}, firstN f n = none → ∀ j, j < n → f j = false
 | 0, _, j, hj => by omega
 | n + 1, h, j, hj => by
  rw [firstN] at h
  cases hc : firstN f n with
  | some k => rw [hc] at h; cases h
  | none =>
   rw [hc] at h
   simp only [] at h
   rcases Nat.lt_or_ge j n with g | g
   ·exact firstN_none_all hc j g
   ·obtain rfl : j = n := by omega
    cases hf : f j with
    | false => rfl
    | true => rw [hf] at h; cases h
section
variable {fa : Int → Int → Bool} {W H bn : Nat} {Bd : List (Nat × Nat)} {S : List TriM}
theorem built_nexts {T : List (Nat × Nat × Nat)} (h : Built fa T Bd S) : Nexts S := by
 intro t T hT i hi
 obtain ⟨u, j, U, hU, -, -, hn, -⟩ := h.surf.other hT hi
 exact ⟨u, hn, (List.getElem?_eq_some_iff.1 hU).1⟩
/-- A triangle of a grid is real, its points being there, or a ghost, its last corner being Ghost. -/
theorem grid_tri (h : Built fa (gridT W H bn) Bd S) (hW : W = 1 ∨ W = 2) (hH : H = 1 ∨ H = 2) (hb : bn < 16) {t : Nat} {T : TriM} (hT : S[t]? = some T) :
  (realT T = true ∧ ∀ i, i < 3 → InV (gridP W H) (T.v i)) ∨ (realT T = false ∧ T.v2 = -1 ∧ InV (gridP W H) T.v0 ∧ InV (gridP W H) T.v1) := by
 obtain ⟨h1, h2⟩ := grid_look h hW hH hb t T hT
 rcases h.cases hT with ⟨x, hx, e0, e1, e2⟩ | ⟨k, e, he, hk, e0, e1, e2⟩
 ·left
  have hr : realT T = true := by unfold realT; exact decide_eq_true (by omega)
  exact ⟨hr, h1 hr⟩
 ·right
  have hp : placeT T (-1) = ((2 : Nat) : Int) := by unfold placeT; rw [if_neg (by omega), if_neg (by omega), if_pos e2.symm]; rfl
  have := h2 2 hp
  exact ⟨by unfold realT; exact decide_eq_false (by omega), e2, this⟩
theorem grid_cornered (h : Built fa (gridT W H bn) Bd S) (hW : W = 1 ∨ W = 2) (hH : H = 1 ∨ H = 2) (hb : bn < 16) : Cornered (gridP W H) S := by
 intro t T hT
 rcases grid_tri h hW hH hb hT with ⟨hr, hv⟩ | ⟨hr, e2, h0, h1⟩
 ·rw [cors_real hr hv]; simp
 ·have hp : placeT T (-1) = ((2 : Nat) : Int) := by unfold InV at h0 h1; unfold placeT; rw [if_neg (by omega), if_neg (by omega), if_pos e2.symm]; rfl
  rw [cors_ghost (j := 2) (by omega) hp h0 h1 e2]; simp
theorem grid_few (hW : W = 1 ∨ W = 2) (hH : H = 1 ∨ H = 2) : (gridP W H).length ≤ 9 := by
 rcases hW with rfl | rfl <;> rcases hH with rfl | rfl <;> decide
theorem gridV_small (h : Built fa (gridT W H bn) Bd S) (hW : W = 1 ∨ W = 2) (hH : H = 1 ∨ H = 2) (hb : bn < 16) : SmallV S := by
 intro t T hT k
 have hf := grid_few hW hH
 rcases grid_tri h hW hH hb hT with ⟨hr, hv⟩ | ⟨hr, e2, h0, h1⟩
 ·have a0 := hv 0 (by omega); have a1 := hv 1 (by omega); have a2 := hv 2 (by omega)
  unfold InV at a0 a1 a2
  match k with
  | 0 => omega
  | 1 => omega
  | k + 2 => have : T.v (k + 2) = T.v 2 := rfl; rw [this]; omega
 ·unfold InV at h0 h1
  match k with
  | 0 => have : T.v 0 = T.v0 := rfl; omega
  | 1 => have : T.v 1 = T.v1 := rfl; omega
  | k + 2 => have : T.v (k + 2) = T.v2 := rfl; omega
theorem grid_size (h : Built fa (gridT W H bn) Bd S) (hW : W = 1 ∨ W = 2) (hH : H = 1 ∨ H = 2) (hb : bn < 16) : S.length ≤ 16 := by
 have ok := grid_ok hW hH hb
 have hm := grid_has hW hH hb
 have h3 := hm.few; have h5 := h.len; have h6 := h.perm.length_eq; have h7 := hm.len
 have h8 : W * H ≤ 4 := by rcases hW with rfl | rfl <;> rcases hH with rfl | rfl <;> decide
 omega
theorem firstK_lt {f : Nat → Bool} {k : Nat} (h : firstK f = some k) : k < 3 := by
 unfold firstK at h
 split at h
 ·cases h; omega
 ·split at h
  ·cases h; omega
  ·split at h
   ·cases h; omega
   ·cases h
theorem grid_start (h : Built fa (gridT W H bn) Bd S) (hW : W = 1 ∨ W = 2) (hH : H = 1 ∨ H = 2) (hb : bn < 16) {p : Int × Int} {x : Int × Int × Int × Int} (hx : lookM (gridP W H) S p = x) (hne : x.1 ≠ 2) : ∃ st, StartIs (gridP W H) S p x st := by
 cases hf : firstN (heldAt (gridP W H) S p) S.length with
 | none =>
  obtain ⟨t, T, hT, ht, hr⟩ := grid_look_right h hW hH hb p
  rw [hx] at ht hr
  have hx3 : x.1 = 3 := by
   unfold lookM at hx; rw [hf] at hx; simp only [] at hx; rw [← hx]
  rcases hr with hr | ⟨-, hr, -, j, hj, h0, -, -, hs⟩
  ·exfalso
   unfold okIn at hr
   rw [Bool.and_eq_true, Bool.and_eq_true] at hr
   have h2 := hr.1.1
   rw [rsL_ins, List.any_eq_true] at h2
   obtain ⟨y, hy, hh⟩ := h2
   obtain ⟨h3, h4⟩ := realsK_mem hy
   have h5 := (firstN_none_all hf) y.1 (List.getElem?_eq_some_iff.1 h3).1
   unfold heldAt at h5
   rw [h3] at h5
   simp only [] at h5
   rw [h4, hh] at h5
   cases h5
  ·exact ⟨_, t, T, ht, hT, .inl ⟨by rw [hx3]; omega, rfl, .inr ⟨hr, j, hj, h0, hs⟩⟩⟩
 | some t =>
  obtain ⟨k1, k2, -⟩ := firstN_some hf
  obtain ⟨T, hT⟩ : ∃ T, S[t]? = some T := ⟨_, List.getElem?_eq_getElem k1⟩
  unfold heldAt at k2
  rw [hT] at k2
  simp only [Bool.and_eq_true] at k2
  unfold lookM at hx
  rw [hf] at hx
  simp only [hT] at hx
  have ht : x.2.1 = (t : Int) := by rw [← hx]; exact (within_no (gridP W H) T t p).1
  cases hc : firstK (fun k => decide (ptA (gridP W H) (T.v k).toNat = p)) with
  | some k => unfold withinT at hx; rw [hc] at hx; simp only [] at hx; rw [← hx] at hne; exact absurd rfl hne
  | none =>
   cases hs : firstK (fun k => decide (sideT (gridP W H) T k p = 0)) with
   | none =>
    unfold withinT at hx; rw [hc, hs] at hx; simp only [] at hx
    exact ⟨_, t, T, ht, hT, .inl ⟨by rw [← hx]; simp, rfl, .inl ⟨k2.1, k2.2, hc, hs⟩⟩⟩
   | some k =>
    have hk := firstK_lt hs
    unfold withinT at hx; rw [hc, hs] at hx; simp only [] at hx
    obtain ⟨u, j, U, hU, hj, he, hn, -⟩ := h.surf.other hT hk
    refine ⟨_, t, T, ht, hT, .inr ⟨by rw [← hx], k, u, hk, hn, (List.getElem?_eq_some_iff.1 hU).1, h.surf.other_ne hT hk hU hj he, ?_, ?_, rfl, k2.1, k2.2, hc, hs⟩⟩
    ·rw [← hx, edgeV_is T hk]
    ·rw [← hx, edgeV_is T hk]
theorem start_in {P : List (Int × Int)} {p : Int × Int} {x : Int × Int × Int × Int} {st : List Int} (h : StartIs P S p x st) : InS S st ∧ st ≠ [] := by
 obtain ⟨t, T, -, hT, ⟨-, rfl, -⟩ | ⟨-, k, u, -, -, hu, hne, -, -, rfl, -⟩⟩ := h
 ·exact ⟨⟨by simp, fun z hz => ⟨t, by simpa using hz, (List.getElem?_eq_some_iff.1 hT).1⟩⟩, by simp⟩
 ·refine ⟨⟨by simp; omega, fun z hz => ?_⟩, by simp⟩
  simp only [List.mem_cons, List.not_mem_nil, or_false] at hz
  rcases hz with rfl | rfl
  ·exact ⟨t, rfl, (List.getElem?_eq_some_iff.1 hT).1⟩
  ·exact ⟨u, rfl, hu⟩
set_option maxHeartbeats 4000000 in
/-- Dig, wherever a point lies that is none of the grid's. -/
theorem gridDig_any {mb pb pc : Nat} {ta : Option Addr} {tc : Nat} (h : Built fa (gridT W H bn) Bd S) (hW : W = 1 ∨ W = 2) (hH : H = 1 ∨ H = 2) (hb : bn < 16) (p0 p1 x0 x1 x2 x3 : Int) (w : World) (hm : MeshR w mb pb pc ta tc (gridP W H) S) (hp : InP p0 ∧ InP p1) {st : List Int} (hs : StartIs (gridP W H) S (p0, p1) (x0, x1, x2, x3) st) :
  Calls Tryz.prog 16 #[.pointer (some ⟨mb, 0, none⟩), .agg #[.int .i64 p0, .int .i64 p1], .agg #[.int .i64 x0, .int .i64 x1, .int .i64 x2, .int .i64 x3]] w fun e w' => ∃ (g c : Nat) (rv : Value) (ts : List Int), e = .returned (.agg #[.slice (some ⟨g, 0, none⟩) ts.length c, rv, .bool ((inRowM (rimP S ts ts.length)).any (cutQ2 (gridP W H) S (p0, p1)))]) ∧ InS S ts ∧ (∀ x, x ∈ ts ↔ Reach S (confT (gridP W H) S (p0, p1)) st x) ∧
   RowN w' w.heap.size 3 1 (.slice (some ⟨g, 0, none⟩) ts.length c) ts.length (intCells (sortL ts)) ∧ RowN w' w.heap.size 50 5 rv (inRowM (rimP S ts ts.length)).length (sideCells (inRowM (rimP S ts ts.length))) ∧ Below w.heap.size w w' := by
 obtain ⟨hI, hne⟩ := start_in hs
 have hN := built_nexts h
 have hC := grid_cornered h hW hH hb
 have hsz := grid_size h hW hH hb
 refine cvDig_any st x0 x1 x2 x3 p0 p1 w hm (grid_inPs hW hH) hp hN hC (by omega) (gridV_small h hW hH hb) hI hne (fun V hV => ?_)
 obtain ⟨t, T, ht, hT, ⟨h1, rfl, -⟩ | ⟨h1, k, u, hk, hn, hu, hut, e1, e2, rfl, -⟩⟩ := hs
 ·simp only [] at ht h1
  subst ht
  have := cvBegin_off t T x0 x2 x3 V (hm.below hV) hT (by simpa using h1)
  have e : takeM (gridP W H) T (t : Int) [] = [(t : Int)] := by unfold takeM; rw [if_pos ⟨hC t T hT, by simp⟩]; rfl
  rw [e] at this; exact this
 ·simp only [] at ht h1 e1 e2
  subst ht; subst h1
  obtain ⟨U, hU⟩ : ∃ U, S[u]? = some U := ⟨_, List.getElem?_eq_getElem hu⟩
  have hself : ∀ j, j < 3 → edgeV T j ≠ ((edgeV T k).2, (edgeV T k).1) := fun j hj => h.surf.not_self hT hk hj
  have hk0 := h.surf.edge_at hT hk
  have hmiss : edgeT T (edgeV T k).2 (edgeV T k).1 = -1 := edgeT_miss fun j hj => hself j hj
  have hj : (edgeT T x2 x3 = (k : Int) ∧ edgeT T x3 x2 = -1) ∨ (edgeT T x2 x3 = -1 ∧ edgeT T x3 x2 = (k : Int)) := by
   rcases Int.le_total (edgeV T k).1 (edgeV T k).2 with g | g
   ·rw [Int.min_eq_left g] at e1; rw [Int.max_eq_right g] at e2
    rw [e1, e2]; exact .inl ⟨hk0, hmiss⟩
   ·rw [Int.min_eq_right g] at e1; rw [Int.max_eq_left g] at e2
    rw [e1, e2]; exact .inr ⟨hmiss, hk0⟩
  have := cvBegin_on t T x2 x3 V (hm.below hV) hT k hk u U hn hU hj
  have e : takeM (gridP W H) U (u : Int) (takeM (gridP W H) T (t : Int) []) = [(t : Int), (u : Int)] := by
   have e' : takeM (gridP W H) T (t : Int) [] = [(t : Int)] := by unfold takeM; rw [if_pos ⟨hC t T hT, by simp⟩]; rfl
   rw [e']; unfold takeM; rw [if_pos ⟨hC u U hU, by simp; omega⟩]; rfl
  rw [e] at this; exact this
end
end Go.Proofs.YtnabdopnlinklaaGreat
/- The holes of the statements' grids, by the kernel: points within. Pure. -/
namespace Go.Proofs.YtnabdopnlinklaaGreat
open Go.RowKit Go.MagM
def hasV (x : Trip) (e : Int × Int) : Bool := (edgesV x).contains e
def growOnce (K : List Trip) (free : Int × Int → Bool) (us : List Trip) : List Trip :=
 us ++ K.filter fun y => !us.contains y && us.any fun x => (edgesV x).any fun e => hasV y (e.2, e.1) && free e
def growN (K : List Trip) (free : Int × Int → Bool) : Nat → List Trip → List Trip
 | 0, us => us
 | n + 1, us => growN K free n (growOnce K free us)
def closedB (K : List Trip) (blocked : Int × Int → Bool) (C : List Trip) : Bool := C.all fun x => (edgesV x).all fun e => blocked e || K.all fun y => !hasV y (e.2, e.1) || C.contains y
def cycB (D : List (Int × Int)) : Bool := (List.range D.length).all fun i => (D.getD i (0, 0)).1 == (D.getD ((i + D.length - 1) % D.length) (0, 0)).2
def ghostE (e : Int × Int) : Bool := e.1 == -1 || e.2 == -1
def rimB (C : List Trip) : Bool :=
 let L := rimV C
 let D := rowE L
 decide (L.map (·.1)).Nodup && D.length == L.length && cycB D && D.all (fun e => decide ((D.getD 0 (0, 0)).1 ≤ e.1)) && ((D.filter ghostE).length == 0 || (D.filter ghostE).length == 2) && decide C.Nodup
def starB (P : List (Int × Int)) (p : Int × Int) (C : List Trip) : Bool := (rowE (rimV C)).all fun e => ghostE e || decide (0 < crP (ptA P e.1.toNat) (ptA P e.2.toNat) p)
def areaV (P : List (Int × Int)) (x : Trip) : Int := crP (ptA P x.1.toNat) (ptA P x.2.1.toNat) (ptA P x.2.2.toNat)
def areaE (P : List (Int × Int)) (p : Int × Int) (e : Int × Int) : Int := crP p (ptA P e.1.toNat) (ptA P e.2.toNat)
def sumI : List Int → Int
 | [] => 0
 | x :: r => x + sumI r
def areaB (P : List (Int × Int)) (p : Int × Int) (C : List Trip) : Bool := !(C.all fun x => realT (triOf x)) || (sumI (C.map (areaV P)) == sumI ((rowE (rimV C)).map (areaE P p)) && (rowE (rimV C)).length == C.length + 2)
def normE (e : Int × Int) : Int × Int := (min e.1 e.2, max e.1 e.2)
def relE (K : List Trip) (x0 y0 : Trip) : List (Int × Int) := (K.flatMap fun x => ((edgesV x).filter fun e => !ghostE e && K.any (fun y => hasV y (e.2, e.1) && !(y == x0 || y == y0))).map normE).eraseDups
def subsB : List (Int × Int) → List (List (Int × Int))
 | [] => [[]]
 | e :: r => (subsB r) ++ (subsB r).map (e :: ·)
def innerH (K : List Trip) (x0 y0 : Trip) (R sub : List (Int × Int)) : List Trip := growN K (fun e => ghostE e || (R.contains (normE e) && !sub.contains (normE e))) 2 [x0, y0]
def innerC (P : List (Int × Int)) (K : List Trip) (p : Int × Int) (x0 y0 : Trip) (R sub : List (Int × Int)) : Bool :=
 closedB K (fun e => sub.contains (normE e)) (innerH K x0 y0 R sub) && rimB (innerH K x0 y0 R sub) && starB P p (innerH K x0 y0 R sub) && areaB P p (innerH K x0 y0 R sub)
def innerG (w h b : Nat) (p : Int × Int) : Bool :=
 let P := gridP w h
 let T := gridT w h b
 let V := allV T (borderT T)
 let K := V.filter fun x => conflictM P (triOf x) p
 (T.map realV).all fun x0 => !holdsT P (triOf x0) p ||
  match firstK fun k => decide (ptA P ((triOf x0).v k).toNat = p) with
  | some _ => true
  | none => match firstK fun k => decide (sideT P (triOf x0) k p = 0) with
   | none => false
   | some k => match V.filter fun y => hasV y ((edgeV (triOf x0) k).2, (edgeV (triOf x0) k).1) with
    | [y0] => (subsB (relE K x0 y0)).all fun sub => innerC P K p x0 y0 (relE K x0 y0) sub
    | _ => false
def allInner : Bool := [1, 2].all fun w => [1, 2].all fun h => (List.range (2 ^ (w * h))).all fun b => (boxG w h).all fun p => innerG w h b p
def allMod : Bool := [1, 2].all fun w => [1, 2].all fun h => (List.range 16).all fun b => decide (gridT w h b = gridT w h (b % 2 ^ (w * h)))
set_option maxRecDepth 100000 in
theorem all_mod : allMod = true := by decide +kernel
set_option maxRecDepth 100000 in
theorem all_inner : allInner = true := by decide +kernel
theorem grid_mod {w h : Nat} (hw : w = 1 ∨ w = 2) (hh : h = 1 ∨ h = 2) {b : Nat} (hb : b < 16) : gridT w h b = gridT w h (b % 2 ^ (w * h)) := by
 have h0 := all_mod
 unfold allMod at h0
 have h1 := List.all_eq_true.1 h0 w (by rcases hw with rfl | rfl <;> simp)
 have h2 := List.all_eq_true.1 h1 h (by rcases hh with rfl | rfl <;> simp)
 exact of_decide_eq_true (List.all_eq_true.1 h2 b (by simp; omega))
theorem inner_of {w h b : Nat} (e : gridT w h b = gridT w h (b % 2 ^ (w * h))) (p : Int × Int) (hi : innerG w h (b % 2 ^ (w * h)) p = true) : innerG w h b p = true := by
 unfold innerG at hi ⊢
 rw [e]; exact hi
theorem grid_inner {w h : Nat} (hw : w = 1 ∨ w = 2) (hh : h = 1 ∨ h = 2) {b : Nat} (hb : b < 16) {p : Int × Int} (hp : InBox w h p) : innerG w h b p = true := by
 have h0 := all_inner
 unfold allInner at h0
 have h1 := List.all_eq_true.1 h0 w (by rcases hw with rfl | rfl <;> simp)
 have h2 := List.all_eq_true.1 h1 h (by rcases hh with rfl | rfl <;> simp)
 have h3 := List.all_eq_true.1 h2 (b % 2 ^ (w * h)) (by simp; exact Nat.mod_lt _ (Nat.two_pow_pos _))
 exact inner_of (grid_mod hw hh hb) p (List.all_eq_true.1 h3 p (boxG_mem hp))
end Go.Proofs.YtnabdopnlinklaaGreat
/- What can be reached, by the kernel's lists. Pure. -/
namespace Go.Proofs.YtnabdopnlinklaaGreat
open Go.RowKit Go.MagM
theorem hasV_iff {x : Trip} {e : Int × Int} : hasV x e = true ↔ e ∈ edgesV x := by unfold hasV; rw [List.contains_iff_mem]
section
variable {V K : List Trip} {fa : Int → Int → Bool} {cv : Trip → Bool} {st : List Trip} {free blocked : Int × Int → Bool}
theorem growOnce_sound (hK : ∀ y ∈ K, y ∈ V ∧ cv y = true) (hf : ∀ e, free e = true → fa e.1 e.2 = false) {us : List Trip} (hu : ∀ x ∈ us, ReachV V fa cv st x) : ∀ x ∈ growOnce K free us, ReachV V fa cv st x := by
 intro y hy
 unfold growOnce at hy
 rcases List.mem_append.1 hy with hy | hy
 ·exact hu y hy
 ·obtain ⟨h1, h2⟩ := List.mem_filter.1 hy
  rw [Bool.and_eq_true] at h2
  obtain ⟨x, hx, h3⟩ := List.any_eq_true.1 h2.2
  obtain ⟨e, he, h4⟩ := List.any_eq_true.1 h3
  rw [Bool.and_eq_true, hasV_iff] at h4
  exact .step (hu x hx) he (hK y h1).1 h4.1 (hf e h4.2) (hK y h1).2
theorem growN_sound (hK : ∀ y ∈ K, y ∈ V ∧ cv y = true) (hf : ∀ e, free e = true → fa e.1 e.2 = false) : ∀ (n : Nat) {us : List Trip}, (∀ x ∈ us, ReachV V fa cv st x) → ∀ x ∈ growN K free n us, ReachV V fa cv st x
 | 0, _, hu => hu
 | n + 1, _, hu => growN_sound hK hf n (growOnce_sound hK hf hu)
theorem growOnce_sub {us : List Trip} {x : Trip} (hx : x ∈ us) : x ∈ growOnce K free us := List.mem_append_left _ hx
theorem growN_sub : ∀ (n : Nat) {us : List Trip}, ∀ {x : Trip}, x ∈ us → x ∈ growN K free n us
 | 0, _, _, hx => hx
 | n + 1, _, _, hx => growN_sub n (growOnce_sub hx)
theorem closed_sound {C : List Trip} (hc : closedB K blocked C = true) (hs : ∀ x ∈ st, x ∈ C) (hK : ∀ y ∈ V, cv y = true → y ∈ K) (hb : ∀ e, blocked e = true → fa e.1 e.2 = true) {x : Trip} (hx : ReachV V fa cv st x) : x ∈ C := by
 induction hx with
 | base h => exact hs _ h
 | step _ he hy he2 hf hcf ih =>
  rename_i x y e _
  unfold closedB at hc
  have h1 := List.all_eq_true.1 (List.all_eq_true.1 hc x ih) e he
  rw [Bool.or_eq_true] at h1
  rcases h1 with h1 | h1
  ·rw [hb e h1] at hf; cases hf
  ·have h2 := List.all_eq_true.1 h1 y (hK y hy hcf)
   rw [Bool.or_eq_true] at h2
   rcases h2 with h2 | h2
   ·rw [hasV_iff.2 he2] at h2; cases h2
   ·exact List.contains_iff_mem.1 h2
theorem subs_filter (q : Int × Int → Bool) : ∀ R : List (Int × Int), R.filter q ∈ subsB R
 | [] => by simp [subsB]
 | e :: r => by
  have := subs_filter q r
  unfold subsB
  rw [List.filter_cons]
  split
  ·exact List.mem_append_right _ (List.mem_map.2 ⟨_, this, rfl⟩)
  ·exact List.mem_append_left _ this
end
/-- What is known of a rim: it goes round once. -/
structure RimOk (l : List SideM) : Prop where
 all : (inRowM l).length = l.length
 cyc : ∀ i, i < (inRowM l).length → ∃ s r, (inRowM l)[i]? = some s ∧ (inRowM l)[(i + (inRowM l).length - 1) % (inRowM l).length]? = some r ∧ s.a = r.b
 least : ∀ s0, (inRowM l)[0]? = some s0 → ∀ s ∈ inRowM l, s0.a ≤ s.a
 ghosts : ((inRowM l).filter fun s => ghostE s.ab).length = 0 ∨ ((inRowM l).filter fun s => ghostE s.ab).length = 2
theorem rim_ok {l : List SideM} {C : List Trip} (hp : (l.map SideM.ab).Perm (rimV C)) (hr : rimB C = true) : (inRowM l).map SideM.ab = rowE (rimV C) ∧ RimOk l := by
 unfold rimB at hr
 simp only [Bool.and_eq_true] at hr
 obtain ⟨⟨⟨⟨⟨h1, h2⟩, h3⟩, h4⟩, h5⟩, -⟩ := hr
 have hn := of_decide_eq_true h1
 have hab := inRow_ab hp hn
 obtain ⟨D, hD⟩ : ∃ D, rowE (rimV C) = D := ⟨_, rfl⟩
 rw [hD] at hab h2 h3 h4 h5
 have hlD : (inRowM l).length = D.length := by rw [← hab, List.length_map]
 have hget : ∀ (i : Nat) (s : SideM), (inRowM l)[i]? = some s → D[i]? = some s.ab := fun i s hs => by rw [← hab, List.getElem?_map, hs]; rfl
 have hlen : (inRowM l).length = l.length := by
  rw [hlD, eq_of_beq h2, ← hp.length_eq, List.length_map]
 refine ⟨hab.trans hD.symm, ⟨hlen, fun i hi => ?_, fun s0 hs0 s hs => ?_, ?_⟩⟩
 ·have hj : (i + (inRowM l).length - 1) % (inRowM l).length < (inRowM l).length := Nat.mod_lt _ (by omega)
  obtain ⟨s, hs⟩ : ∃ s, (inRowM l)[i]? = some s := ⟨_, List.getElem?_eq_getElem hi⟩
  obtain ⟨r, hr⟩ : ∃ r, (inRowM l)[(i + (inRowM l).length - 1) % (inRowM l).length]? = some r := ⟨_, List.getElem?_eq_getElem hj⟩
  refine ⟨s, r, hs, hr, ?_⟩
  unfold cycB at h3
  have := eq_of_beq (List.all_eq_true.1 h3 i (List.mem_range.2 (by omega)))
  rw [← hlD, List.getD_eq_getElem?_getD, List.getD_eq_getElem?_getD, hget _ _ hs, hget _ _ hr] at this
  exact this
 ·have hm : s.ab ∈ D := by rw [← hab]; exact List.mem_map.2 ⟨s, hs, rfl⟩
  have := of_decide_eq_true (List.all_eq_true.1 h4 _ hm)
  rw [List.getD_eq_getElem?_getD, hget _ _ hs0] at this
  exact this
 ·have e : ((inRowM l).filter fun s => ghostE s.ab).length = (D.filter ghostE).length := by
   rw [← hab, List.filter_map, List.length_map]; rfl
  rw [e]
  simpa using h5
section
variable {fa : Int → Int → Bool} {V : List Trip} {S : List TriM}
/-- The hole's triangles are those of the list. -/
theorem hole_perm (h : Surf fa V S) {ts st : List Int} {C : List Trip} {conf : Int → Bool} {cv : Trip → Bool} (hI : InS S ts) (hst : ∀ t ∈ st, ∃ u : Nat, t = (u : Int) ∧ u < S.length) (hts : ∀ x, x ∈ ts ↔ Reach S conf st x)
  (hc : ∀ (u : Nat) (U : TriM), S[u]? = some U → conf (u : Int) = cv (trip U)) (hC : ∀ x, x ∈ C ↔ ReachV V fa cv (st.map (tripS S)) x) (hn : C.Nodup) : (ts.map (tripS S)).Perm C := by
 have hnd : (ts.map (tripS S)).Nodup := by
  rw [List.nodup_iff_pairwise_ne, List.pairwise_map]
  refine (List.nodup_iff_pairwise_ne.1 hI.once).imp_of_mem ?_
  intro a b ha hb hne e
  obtain ⟨u, rfl, hu⟩ := hI.is a ha
  obtain ⟨v, rfl, hv⟩ := hI.is b hb
  obtain ⟨U, hU⟩ : ∃ U, S[u]? = some U := ⟨_, List.getElem?_eq_getElem hu⟩
  obtain ⟨X, hX⟩ : ∃ U, S[v]? = some U := ⟨_, List.getElem?_eq_getElem hv⟩
  rw [tripS_at hU, tripS_at hX] at e
  exact hne (by rw [h.trip_inj hU hX e])
 rw [List.perm_ext_iff_of_nodup hnd hn]
 intro x
 rw [hC]
 constructor
 ·intro hx
  obtain ⟨z, hz, rfl⟩ := List.mem_map.1 hx
  obtain ⟨u, U, rfl, hU, hr⟩ := reach_tripS h hst hc ((hts z).1 hz)
  rw [tripS_at hU]; exact hr
 ·intro hx
  obtain ⟨u, U, hU, rfl, hr⟩ := tripS_reach h hst hc hx
  exact List.mem_map.2 ⟨_, (hts _).2 hr, tripS_at hU⟩
end
end Go.Proofs.YtnabdopnlinklaaGreat
/- The holes of the statements' grids: points beyond. Pure. -/
namespace Go.Proofs.YtnabdopnlinklaaGreat
open Go.RowKit Go.MagM
/-- Points beyond: left, right, below, above. -/
def confO (w h : Nat) (l r bo tp : Bool) (x : Trip) : Bool :=
 let a := ptA (gridP w h) x.2.1.toNat
 let b := ptA (gridP w h) x.1.toNat
 (decide (a.1 = 0 ∧ b.1 = 0) && l) || (decide (a.1 = 2 * (w : Int) ∧ b.1 = 2 * (w : Int)) && r) || (decide (a.2 = 0 ∧ b.2 = 0) && bo) || (decide (a.2 = 2 * (h : Int) ∧ b.2 = 2 * (h : Int)) && tp)
def outerH (K : List Trip) (x0 : Trip) : List Trip := growN K ghostE 4 [x0]
def outerG (w h : Nat) (l r bo tp : Bool) : Bool :=
 let K := ((borderT (gridT w h 0)).map ghostV).filter (confO w h l r bo tp)
 K.all fun x0 => closedB K (fun _ => false) (outerH K x0) && rimB (outerH K x0)
def allOuter : Bool := [1, 2].all fun w => [1, 2].all fun h => [false, true].all fun l => [false, true].all fun r => [false, true].all fun bo => [false, true].all fun tp => (l && r) || (bo && tp) || outerG w h l r bo tp
set_option maxRecDepth 100000 in
theorem all_outer : allOuter = true := by decide +kernel
theorem grid_outer {w h : Nat} (hw : w = 1 ∨ w = 2) (hh : h = 1 ∨ h = 2) (l r bo tp : Bool) (h1 : (l && r) = false) (h2 : (bo && tp) = false) : outerG w h l r bo tp = true := by
 have h0 := all_outer
 unfold allOuter at h0
 have a1 := List.all_eq_true.1 h0 w (by rcases hw with rfl | rfl <;> simp)
 have a2 := List.all_eq_true.1 a1 h (by rcases hh with rfl | rfl <;> simp)
 have a3 := List.all_eq_true.1 (List.all_eq_true.1 a2 l (by cases l <;> simp)) r (by cases r <;> simp)
 have a4 := List.all_eq_true.1 (List.all_eq_true.1 a3 bo (by cases bo <;> simp)) tp (by cases tp <;> simp)
 rw [h1, h2] at a4
 exact a4
/-- All grids of one size have the same border. -/
def allBorder : Bool := [1, 2].all fun w => [1, 2].all fun h => (List.range 16).all fun b => (borderT (gridT w h b)).all (fun e => (borderT (gridT w h 0)).contains e) && (borderT (gridT w h 0)).all (fun e => (borderT (gridT w h b)).contains e)
set_option maxRecDepth 100000 in
theorem all_border : allBorder = true := by decide +kernel
theorem grid_border {w h : Nat} (hw : w = 1 ∨ w = 2) (hh : h = 1 ∨ h = 2) {b : Nat} (hb : b < 16) (e : Nat × Nat) : e ∈ borderT (gridT w h b) ↔ e ∈ borderT (gridT w h 0) := by
 have h0 := all_border
 unfold allBorder at h0
 have a1 := List.all_eq_true.1 h0 w (by rcases hw with rfl | rfl <;> simp)
 have a2 := List.all_eq_true.1 a1 h (by rcases hh with rfl | rfl <;> simp)
 have a3 := List.all_eq_true.1 a2 b (by simp; omega)
 rw [Bool.and_eq_true] at a3
 exact ⟨fun he => List.contains_iff_mem.1 (List.all_eq_true.1 a3.1 e he), fun he => List.contains_iff_mem.1 (List.all_eq_true.1 a3.2 e he)⟩
/-- A triangle of a grid is half a square. -/
def shapeC (c a b d : Int × Int) : Bool :=
 let LL := (c.1 - 1, c.2 - 1)
 let LR := (c.1 + 1, c.2 - 1)
 let UR := (c.1 + 1, c.2 + 1)
 let UL := (c.1 - 1, c.2 + 1)
 decide ((a = LL ∧ b = LR ∧ d = UR) ∨ (a = UR ∧ b = UL ∧ d = LL) ∨ (a = LR ∧ b = UL ∧ d = LL) ∨ (a = UL ∧ b = LR ∧ d = UR))
def shapeG (w h b : Nat) : Bool := (gridT w h b).all fun x => (gridSq w h).any fun q => decide (q.1 < w ∧ q.2 < h) && shapeC (2 * (q.1 : Int) + 1, 2 * (q.2 : Int) + 1) (ptA (gridP w h) x.1) (ptA (gridP w h) x.2.1) (ptA (gridP w h) x.2.2)
def allShape : Bool := [1, 2].all fun w => [1, 2].all fun h => (List.range 16).all fun b => shapeG w h b
set_option maxRecDepth 100000 in
theorem all_shape : allShape = true := by decide +kernel
theorem grid_shape {w h : Nat} (hw : w = 1 ∨ w = 2) (hh : h = 1 ∨ h = 2) {b : Nat} (hb : b < 16) : shapeG w h b = true := by
 have h0 := all_shape
 unfold allShape at h0
 have a1 := List.all_eq_true.1 h0 w (by rcases hw with rfl | rfl <;> simp)
 have a2 := List.all_eq_true.1 a1 h (by rcases hh with rfl | rfl <;> simp)
 exact List.all_eq_true.1 a2 b (by simp; omega)
theorem inc_square (c p a b d : Int × Int) (h : shapeC c a b d = true) : inc a.1 a.2 b.1 b.2 d.1 d.2 p.1 p.2 = 4 * (2 - (p.1 - c.1) * (p.1 - c.1) - (p.2 - c.2) * (p.2 - c.2)) := by
 unfold shapeC at h
 rcases of_decide_eq_true h with ⟨rfl, rfl, rfl⟩ | ⟨rfl, rfl, rfl⟩ | ⟨rfl, rfl, rfl⟩ | ⟨rfl, rfl, rfl⟩
 all_goals (unfold inc; simp only []; grind)
theorem far_square {w h : Nat} {c p : Int × Int} (h1 : 1 ≤ c.1 ∧ c.1 ≤ 2 * (w : Int) - 1) (h2 : 1 ≤ c.2 ∧ c.2 ≤ 2 * (h : Int) - 1) (hp : ¬ InBox w h p) : ¬ 0 < 4 * (2 - (p.1 - c.1) * (p.1 - c.1) - (p.2 - c.2) * (p.2 - c.2)) := by
 have sq : ∀ u : Int, 2 ≤ u ∨ u ≤ -2 → 4 ≤ u * u := by
  intro u hu
  rcases hu with g | g
  ·have := Int.mul_le_mul g g (by omega) (by omega); omega
  ·have := Int.mul_le_mul (show 2 ≤ -u by omega) (show 2 ≤ -u by omega) (by omega) (by omega); rw [Int.neg_mul_neg] at this; omega
 have nn : ∀ u : Int, 0 ≤ u * u := fun u => by
  rcases Int.le_total 0 u with g | g
  ·exact Int.mul_nonneg g g
  ·have := Int.mul_nonneg (show 0 ≤ -u by omega) (show 0 ≤ -u by omega); rw [Int.neg_mul_neg] at this; exact this
 have n1 := nn (p.1 - c.1)
 have n2 := nn (p.2 - c.2)
 unfold InBox at hp
 by_cases g1 : 2 ≤ p.1 - c.1 ∨ p.1 - c.1 ≤ -2
 ·have := sq _ g1; omega
 ·have := sq (p.2 - c.2) (by omega); omega
end Go.Proofs.YtnabdopnlinklaaGreat
/- The holes of the statements' grids: what is known of each. Pure. -/
namespace Go.Proofs.YtnabdopnlinklaaGreat
open Go.RowKit Go.MagM
theorem same_trip (T : TriM) : SameV T (triOf (trip T)) := ⟨rfl, rfl, rfl⟩
theorem conflict_same {T U : TriM} (h : SameV T U) (P : List (Int × Int)) (p : Int × Int) : conflictM P T p = conflictM P U p := by
 have hp : placeT T (-1) = placeT U (-1) := by unfold placeT; rw [h.1, h.2.1, h.2.2]
 have hf : corF T = corF U := by unfold corF; rw [hp]
 have hk : ∀ k, corK P T k = corK P U k := fun k => by unfold corK; rw [h.v, h.pt]
 unfold conflictM cors
 simp only [corsN, hf, hk]
theorem sumI_perm {l k : List Int} (h : l.Perm k) : sumI l = sumI k := by
 induction h with
 | nil => rfl
 | cons x _ ih => unfold sumI; rw [ih]
 | swap x y l => simp only [sumI]; omega
 | trans _ _ ih1 ih2 => rw [ih1, ih2]
/-- What is known of a hole. -/
structure HoleOk (P : List (Int × Int)) (S : List TriM) (p : Int × Int) (ts : List Int) : Prop where
 rim : RimOk (rimP S ts ts.length)
 star : ∀ s ∈ inRowM (rimP S ts ts.length), ghostE s.ab = false → 0 < crP (ptA P s.a.toNat) (ptA P s.b.toNat) p
 area : (∀ t ∈ ts, realT (triOf (tripS S t)) = true) → sumI ((sortL ts).map fun t => areaV P (tripS S t)) = sumI ((inRowM (rimP S ts ts.length)).map fun s => areaE P p s.ab) ∧ (inRowM (rimP S ts ts.length)).length = ts.length + 2
theorem hole_of {P : List (Int × Int)} {S : List TriM} {p : Int × Int} {ts : List Int} {fa : Int → Int → Bool} {V C : List Trip} (h : Surf fa V S) (hI : InS S ts) (hp : (ts.map (tripS S)).Perm C) (hr : rimB C = true)
  (hs : (∀ s ∈ inRowM (rimP S ts ts.length), ghostE s.ab = false → 0 < crP (ptA P s.a.toNat) (ptA P s.b.toNat) p) ∨ starB P p C = true)
  (ha : (∃ t ∈ ts, realT (triOf (tripS S t)) = false) ∨ areaB P p C = true) : HoleOk P S p ts := by
 have hL : ((rimP S ts ts.length).map SideM.ab).Perm (rimV C) := by rw [rim_ab h hI]; exact rimV_perm hp
 obtain ⟨hab, hok⟩ := rim_ok hL hr
 refine ⟨hok, ?_, fun hreal => ?_⟩
 ·rcases hs with hs | hs
  ·exact hs
  ·intro s hm hg
   unfold starB at hs
   have := List.all_eq_true.1 hs s.ab (by rw [← hab]; exact List.mem_map.2 ⟨s, hm, rfl⟩)
   rw [hg, Bool.false_or] at this
   exact of_decide_eq_true this
 ·rcases ha with ⟨t, ht, hf⟩ | ha
  ·rw [hreal t ht] at hf; cases hf
  ·unfold areaB at ha
   rw [Bool.or_eq_true] at ha
   have hall : (C.all fun x => realT (triOf x)) = true := by
    rw [List.all_eq_true]
    intro x hx
    obtain ⟨t, ht, rfl⟩ := List.mem_map.1 (hp.mem_iff.2 hx)
    exact hreal t ht
   rw [hall] at ha
   rcases ha with ha | ha
   ·cases ha
   ·rw [Bool.and_eq_true] at ha
    have e1 := eq_of_beq ha.1
    have e2 := eq_of_beq ha.2
    have hlC := hp.length_eq
    rw [List.length_map] at hlC
    constructor
    ·have q1 : sumI ((sortL ts).map fun t => areaV P (tripS S t)) = sumI (C.map (areaV P)) := by
      have : ((sortL ts).map fun t => areaV P (tripS S t)) = ((sortL ts).map (tripS S)).map (areaV P) := by rw [List.map_map]; rfl
      rw [this]
      exact sumI_perm ((((sortL_perm ts).map _).trans hp).map _)
     have q2 : ((inRowM (rimP S ts ts.length)).map fun s => areaE P p s.ab) = (rowE (rimV C)).map (areaE P p) := by rw [← hab, List.map_map]; rfl
     rw [q1, q2, e1]
    ·have q3 : (inRowM (rimP S ts ts.length)).length = (rowE (rimV C)).length := by rw [← hab, List.length_map]
     rw [q3, e2, hlC]
section
variable {fa : Int → Int → Bool} {W H bn : Nat} {Bd : List (Nat × Nat)} {S : List TriM} {p : Int × Int} {ts st : List Int}
theorem mem_allV (hb : Bd.Perm (borderT (gridT W H bn))) (x : Trip) : x ∈ allV (gridT W H bn) Bd ↔ x ∈ allV (gridT W H bn) (borderT (gridT W H bn)) := by
 unfold allV
 rw [List.mem_append, List.mem_append]
 exact or_congr Iff.rfl (hb.map ghostV).mem_iff
theorem conf_hyp (P : List (Int × Int)) (p : Int × Int) (u : Nat) (U : TriM) (hU : S[u]? = some U) : confT P S p (u : Int) = conflictM P (triOf (trip U)) p := by
 unfold confT; rw [Int.toNat_natCast, hU]; exact conflict_same (same_trip U) P p
theorem norm_fa (hfa : ∀ a b, fa a b = fa b a) (e : Int × Int) : fa (normE e).1 (normE e).2 = fa e.1 e.2 := by
 unfold normE
 rcases Int.le_total e.1 e.2 with g | g
 ·rw [Int.min_eq_left g, Int.max_eq_right g]
 ·rw [Int.min_eq_right g, Int.max_eq_left g]; exact hfa _ _
set_option maxHeartbeats 4000000 in
theorem hole_in (h : Built fa (gridT W H bn) Bd S) (hW : W = 1 ∨ W = 2) (hH : H = 1 ∨ H = 2) (hb : bn < 16) (hfa : ∀ a b, fa a b = fa b a) (hgh : ∀ e : Int × Int, ghostE e = true → fa e.1 e.2 = false)
  {t : Nat} {T : TriM} (hT : S[t]? = some T) (hr : realT T = true) (hh : holdsT (gridP W H) T p = true) (hc : firstK (fun k => decide (ptA (gridP W H) (T.v k).toNat = p)) = none)
  (hk : (firstK (fun k => decide (sideT (gridP W H) T k p = 0)) = none) ∨ ∃ k u : Nat, T.n k = (u : Int) ∧ st = [(t : Int), (u : Int)] ∧ firstK (fun k => decide (sideT (gridP W H) T k p = 0)) = some k)
  (hI : InS S ts) (hIs : InS S st) (hts : ∀ x, x ∈ ts ↔ Reach S (confT (gridP W H) S p) st x) : HoleOk (gridP W H) S p ts := by
 have hin := grid_held h hW hH hb hT hr hh
 have hg := grid_inner hW hH hb hin
 have hx0 : trip T ∈ (gridT W H bn).map realV := by
  rcases h.cases hT with ⟨x, hx, e0, e1, e2⟩ | ⟨k, e, he, hk, e0, e1, e2⟩
  ·exact List.mem_map.2 ⟨x, List.mem_of_getElem? hx, by unfold trip realV; rw [e0, e1, e2]⟩
  ·unfold realT at hr; have := of_decide_eq_true hr; omega
 unfold innerG at hg
 have h1 := List.all_eq_true.1 hg (trip T) hx0
 have hs := same_trip T
 rw [← hs.holds, hh] at h1
 have hcc : (fun k => decide (ptA (gridP W H) ((triOf (trip T)).v k).toNat = p)) = fun k => decide (ptA (gridP W H) (T.v k).toNat = p) := by funext k; rw [hs.v]
 have hss : (fun k => decide (sideT (gridP W H) (triOf (trip T)) k p = 0)) = fun k => decide (sideT (gridP W H) T k p = 0) := by funext k; rw [hs.side]
 rw [hcc, hc, hss] at h1
 simp only [Bool.not_true, Bool.false_or] at h1
 rcases hk with hk | ⟨k, u, hn, rfl, hk⟩
 ·rw [hk] at h1; cases h1
 ·rw [hk] at h1
  simp only [] at h1
  have hk3 := firstK_lt hk
  have hek : edgeV (triOf (trip T)) k = edgeV T k := by
   obtain rfl | rfl | rfl : k = 0 ∨ k = 1 ∨ k = 2 := by omega
   all_goals rfl
  rw [hek] at h1
  obtain ⟨u', j, U, hU, hj, he, hn', -⟩ := h.surf.other hT hk3
  have eu : u' = u := by omega
  subst eu
  have hUV : trip U ∈ allV (gridT W H bn) (borderT (gridT W H bn)) := (mem_allV h.perm _).1 (h.surf.trip_mem hU)
  have hUf : trip U ∈ (allV (gridT W H bn) (borderT (gridT W H bn))).filter fun y => hasV y ((edgeV T k).2, (edgeV T k).1) := List.mem_filter.2 ⟨hUV, by rw [hasV_iff, ← he]; exact edge_trip hj⟩
  obtain ⟨y0, hy0⟩ : ∃ y0, ((allV (gridT W H bn) (borderT (gridT W H bn))).filter fun y => hasV y ((edgeV T k).2, (edgeV T k).1)) = [y0] := by
   split at h1
   ·rename_i y0 hy; exact ⟨y0, hy⟩
   ·cases h1
  rw [hy0] at h1 hUf
  simp only [List.mem_singleton] at hUf
  subst hUf
  simp only [] at h1
  obtain ⟨K, hK⟩ : ∃ K, ((allV (gridT W H bn) (borderT (gridT W H bn))).filter fun x => conflictM (gridP W H) (triOf x) p) = K := ⟨_, rfl⟩
  rw [hK] at h1
  have h2 := List.all_eq_true.1 h1 _ (subs_filter (fun e => fa e.1 e.2) _)
  obtain ⟨R, hR⟩ : ∃ R, relE K (trip T) (trip U) = R := ⟨_, rfl⟩
  rw [hR] at h2
  unfold innerC at h2
  simp only [Bool.and_eq_true] at h2
  obtain ⟨⟨⟨h3, h4⟩, h5⟩, h6⟩ := h2
  have hst : [(t : Int), (u' : Int)].map (tripS S) = [trip T, trip U] := by simp [tripS_at hT, tripS_at hU]
  have hKm : ∀ y, y ∈ K ↔ y ∈ allV (gridT W H bn) Bd ∧ conflictM (gridP W H) (triOf y) p = true := fun y => by
   rw [← hK, List.mem_filter, mem_allV h.perm]
  refine hole_of h.surf hI (C := innerH K (trip T) (trip U) R (R.filter fun e => fa e.1 e.2)) ?_ h4 (.inr h5) (.inr h6)
  have hnd : (innerH K (trip T) (trip U) R (R.filter fun e => fa e.1 e.2)).Nodup := by
   unfold rimB at h4
   simp only [Bool.and_eq_true] at h4
   exact of_decide_eq_true h4.2
  refine hole_perm h.surf hI hIs.is hts (conf_hyp (gridP W H) p) (cv := fun x => conflictM (gridP W H) (triOf x) p) (fun x => ?_) hnd
  rw [hst]
  constructor
  ·exact growN_sound (fun y hy => (hKm y).1 hy) (fun e hf => by
    simp only [Bool.or_eq_true, Bool.and_eq_true, Bool.not_eq_true'] at hf
    rcases hf with hf | ⟨hf, hf2⟩
    ·exact hgh e hf
    ·cases hq : fa e.1 e.2 with
     | false => rfl
     | true =>
      have : (R.filter fun e => fa e.1 e.2).contains (normE e) = true := List.contains_iff_mem.2 (List.mem_filter.2 ⟨List.contains_iff_mem.1 hf, by rw [norm_fa hfa]; exact hq⟩)
      rw [hf2] at this; cases this) 2 (fun x hx => .base hx) x
  ·exact closed_sound h3 (fun y hy => growN_sub 2 hy) (fun y hy hcy => (hKm y).2 ⟨hy, hcy⟩) (fun e hbl => by
    have := (List.mem_filter.1 (List.contains_iff_mem.1 hbl)).2
    rw [norm_fa hfa] at this
    exact this)
end
end Go.Proofs.YtnabdopnlinklaaGreat
/- The holes of the statements' grids: points beyond; every point. Pure. -/
namespace Go.Proofs.YtnabdopnlinklaaGreat
open Go.RowKit Go.MagM
section
variable {W H bn : Nat} {p : Int × Int}
/-- A ghost, and a point beyond the grid. -/
theorem ghost_conf (hW : W = 1 ∨ W = 2) (hH : H = 1 ∨ H = 2) (hb : bn < 16) {e : Nat × Nat} (he : e ∈ borderT (gridT W H bn)) (hp : ¬ InBox W H p) :
  conflictM (gridP W H) (triOf (ghostV e)) p = confO W H (decide (p.1 < 0)) (decide (2 * (W : Int) < p.1)) (decide (p.2 < 0)) (decide (2 * (H : Int) < p.2)) (ghostV e) ∧
  (conflictM (gridP W H) (triOf (ghostV e)) p = true ↔ 0 < crP (ptA (gridP W H) e.2) (ptA (gridP W H) e.1) p) := by
 have hm := grid_has hW hH hb
 obtain ⟨l1, l2⟩ := hm.ends e he
 have hcs : cors (gridP W H) (triOf (ghostV e)) = [ptA (gridP W H) e.2, ptA (gridP W H) e.1] := by
  have hp : placeT (triOf (ghostV e)) (-1) = ((2 : Nat) : Int) := by
   unfold placeT triOf ghostV
   simp only []
   rw [if_neg (by omega), if_neg (by omega), if_pos trivial]; rfl
  exact cors_ghost (j := 2) (by omega) hp ⟨by show (0 : Int) ≤ (e.2 : Int); omega, by show (e.2 : Int) < _; omega⟩ ⟨by show (0 : Int) ≤ (e.1 : Int); omega, by show (e.1 : Int) < _; omega⟩ rfl
 have hin : ∀ v, v < (gridP W H).length → 0 ≤ (ptA (gridP W H) v).1 ∧ (ptA (gridP W H) v).1 ≤ 2 * (W : Int) ∧ 0 ≤ (ptA (gridP W H) v).2 ∧ (ptA (gridP W H) v).2 ≤ 2 * (H : Int) := by
  intro v hv
  have hg := grid_edgeG hW hH hb
  unfold edgeG at hg
  simp only [Bool.and_eq_true] at hg
  have := List.all_eq_true.1 hg.2 (ptA (gridP W H) v) (by unfold ptA; rw [List.getElem?_eq_getElem hv]; exact List.getElem_mem hv)
  exact of_decide_eq_true this
 have i1 := hin e.1 l1
 have i2 := hin e.2 l2
 have hsd : sideG W H e = true := by
  have hg := grid_edgeG hW hH hb
  unfold edgeG at hg
  simp only [Bool.and_eq_true] at hg
  exact List.all_eq_true.1 hg.1.1.1.1.1 e he
 have hcm : conflictM (gridP W H) (triOf (ghostV e)) p = (decide (0 < crP (ptA (gridP W H) e.2) (ptA (gridP W H) e.1) p) || (decide (¬ (p.1 = (ptA (gridP W H) e.2).1 ∧ p.2 = (ptA (gridP W H) e.2).2) ∧ ¬ (p.1 = (ptA (gridP W H) e.1).1 ∧ p.2 = (ptA (gridP W H) e.1).2)) && onP p.1 p.2 (ptA (gridP W H) e.2).1 (ptA (gridP W H) e.2).2 (ptA (gridP W H) e.1).1 (ptA (gridP W H) e.1).2)) := by
  unfold conflictM; rw [hcs]; rfl
 have e1 : ((ghostV e).2.1).toNat = e.1 := rfl
 have e2 : ((ghostV e).1).toNat = e.2 := rfl
 rw [hcm]
 unfold confO
 rw [e1, e2]
 obtain ⟨⟨a0, a1⟩, ha⟩ : ∃ q, ptA (gridP W H) e.1 = q := ⟨_, rfl⟩
 obtain ⟨⟨b0, b1⟩, hb'⟩ : ∃ q, ptA (gridP W H) e.2 = q := ⟨_, rfl⟩
 obtain ⟨p0, p1⟩ := p
 unfold sideG at hsd
 rw [ha, hb'] at hsd
 rw [ha] at i1; rw [hb'] at i2
 rw [ha, hb']
 simp only [] at i1 i2 hsd
 unfold InBox at hp
 simp only [] at hp
 have hon : onP p0 p1 b0 b1 a0 a1 = false := by
  unfold onP
  refine decide_eq_false (fun hc => hp ⟨?_, ?_, ?_, ?_⟩)
  all_goals omega
 simp only []
 rw [hon, Bool.and_false, Bool.or_false]
 have hcr : crP (b0, b1) (a0, a1) (p0, p1) = (a0 - b0) * (p1 - b1) - (a1 - b1) * (p0 - b0) := rfl
 refine ⟨?_, by rw [decide_eq_true_eq]⟩
 simp only [Bool.or_eq_true, decide_eq_true_eq] at hsd
 have hsz : 1 ≤ (W : Int) ∧ 1 ≤ (H : Int) := by omega
 rw [hcr, Bool.eq_iff_iff]
 simp only [Bool.or_eq_true, Bool.and_eq_true, decide_eq_true_eq]
 rcases hsd with ((⟨h1, h2, h3⟩ | ⟨h1, h2, h3⟩) | ⟨h1, h2, h3⟩) | ⟨h1, h2, h3⟩
 ·subst h1; subst h2
  have q : ((0 : Int) - 0) * (p1 - b1) - (a1 - b1) * (p0 - 0) = -((a1 - b1) * p0) := by rw [Int.sub_self, Int.zero_mul, Int.sub_zero]; omega
  rw [q]
  constructor
  ·intro h
   refine .inl (.inl (.inl ⟨⟨rfl, rfl⟩, ?_⟩))
   rcases Int.lt_or_le p0 0 with g | g
   ·exact g
   ·have := Int.mul_nonneg (show 0 ≤ a1 - b1 by omega) g; omega
  ·intro h
   have g : p0 < 0 := by omega
   have := Int.mul_neg_of_pos_of_neg (show 0 < a1 - b1 by omega) g; omega
 ·subst h1; subst h2
  have q : ((2 * (W : Int)) - 2 * (W : Int)) * (p1 - b1) - (a1 - b1) * (p0 - 2 * (W : Int)) = (b1 - a1) * (p0 - 2 * (W : Int)) := by rw [Int.sub_self, Int.zero_mul, ← Int.neg_sub b1 a1, Int.neg_mul]; omega
  rw [q]
  constructor
  ·intro h
   refine .inl (.inl (.inr ⟨⟨rfl, rfl⟩, ?_⟩))
   rcases Int.lt_or_le (2 * (W : Int)) p0 with g | g
   ·exact g
   ·have := Int.mul_nonpos_of_nonneg_of_nonpos (show 0 ≤ b1 - a1 by omega) (show p0 - 2 * (W : Int) ≤ 0 by omega); omega
  ·intro h
   have g : 2 * (W : Int) < p0 := by omega
   exact Int.mul_pos (show 0 < b1 - a1 by omega) (by omega)
 ·subst h1; subst h2
  have q : (a0 - b0) * (p1 - 0) - ((0 : Int) - 0) * (p0 - b0) = (a0 - b0) * p1 := by simp only [Int.sub_self, Int.zero_mul, Int.sub_zero]
  rw [q]
  constructor
  ·intro h
   refine .inl (.inr ⟨⟨rfl, rfl⟩, ?_⟩)
   rcases Int.lt_or_le p1 0 with g | g
   ·exact g
   ·have := Int.mul_nonpos_of_nonpos_of_nonneg (show a0 - b0 ≤ 0 by omega) g; omega
  ·intro h
   have g : p1 < 0 := by omega
   exact Int.mul_pos_of_neg_of_neg (show a0 - b0 < 0 by omega) g
 ·subst h1; subst h2
  have q : (a0 - b0) * (p1 - 2 * (H : Int)) - (2 * (H : Int) - 2 * (H : Int)) * (p0 - b0) = (a0 - b0) * (p1 - 2 * (H : Int)) := by rw [Int.sub_self, Int.zero_mul]; omega
  rw [q]
  constructor
  ·intro h
   refine .inr ⟨⟨rfl, rfl⟩, ?_⟩
   rcases Int.lt_or_le (2 * (H : Int)) p1 with g | g
   ·exact g
   ·have := Int.mul_nonpos_of_nonneg_of_nonpos (show 0 ≤ a0 - b0 by omega) (show p1 - 2 * (H : Int) ≤ 0 by omega); omega
  ·intro h
   have g : 2 * (H : Int) < p1 := by omega
   exact Int.mul_pos (show 0 < a0 - b0 by omega) (by omega)
/-- A real triangle, and a point beyond the grid. -/
theorem real_conf (hW : W = 1 ∨ W = 2) (hH : H = 1 ∨ H = 2) (hb : bn < 16) {x : Nat × Nat × Nat} (hx : x ∈ gridT W H bn) (hp : ¬ InBox W H p) : conflictM (gridP W H) (triOf (realV x)) p = false := by
 have hi := grid_inL hW hH hb
 unfold inL at hi
 simp only [Bool.and_eq_true] at hi
 have hv := List.all_eq_true.1 hi.1.1 x hx
 simp only [Bool.and_eq_true, decide_eq_true_eq] at hv
 have hcs : cors (gridP W H) (triOf (realV x)) = [ptA (gridP W H) x.1, ptA (gridP W H) x.2.1, ptA (gridP W H) x.2.2] := by
  refine cors_real (T := triOf (realV x)) (by unfold realT triOf realV; exact decide_eq_true ⟨by simp only []; omega, by simp only []; omega, by simp only []; omega⟩) (fun i hi => ?_)
  obtain rfl | rfl | rfl : i = 0 ∨ i = 1 ∨ i = 2 := by omega
  ·exact ⟨by show (0 : Int) ≤ (x.1 : Int); omega, by show (x.1 : Int) < _; omega⟩
  ·exact ⟨by show (0 : Int) ≤ (x.2.1 : Int); omega, by show (x.2.1 : Int) < _; omega⟩
  ·exact ⟨by show (0 : Int) ≤ (x.2.2 : Int); omega, by show (x.2.2 : Int) < _; omega⟩
 have hsh := grid_shape hW hH hb
 unfold shapeG at hsh
 obtain ⟨q, -, hq⟩ := List.any_eq_true.1 (List.all_eq_true.1 hsh x hx)
 rw [Bool.and_eq_true, decide_eq_true_eq] at hq
 unfold conflictM
 rw [hcs]
 unfold conflictL
 simp only []
 rw [inc_square _ p _ _ _ hq.2]
 refine decide_eq_false (far_square ?_ ?_ hp)
 ·simp only []; omega
 ·simp only []; omega
end
section
variable {fa : Int → Int → Bool} {W H bn : Nat} {Bd : List (Nat × Nat)} {S : List TriM} {p : Int × Int} {ts st : List Int}
set_option maxHeartbeats 4000000 in
theorem hole_out (h : Built fa (gridT W H bn) Bd S) (hW : W = 1 ∨ W = 2) (hH : H = 1 ∨ H = 2) (hb : bn < 16) (hgh : ∀ e : Int × Int, ghostE e = true → fa e.1 e.2 = false)
  {t : Nat} {T : TriM} (hT : S[t]? = some T) (hr : realT T = false) (hf : ∃ j, j < 3 ∧ T.v j = -1 ∧ 0 < sideT (gridP W H) T j p) (hst : st = [(t : Int)])
  (hI : InS S ts) (hIs : InS S st) (hts : ∀ x, x ∈ ts ↔ Reach S (confT (gridP W H) S p) st x) : HoleOk (gridP W H) S p ts := by
 obtain ⟨j, hj, hj0, hjs⟩ := hf
 have hgv : ∀ (u : Nat) (U : TriM), S[u]? = some U → realT U = false → ∃ e, e ∈ borderT (gridT W H bn) ∧ trip U = ghostV e := by
  intro u U hU hru
  rcases h.cases hU with ⟨x, hx, e0, e1, e2⟩ | ⟨k, e, he, hk, e0, e1, e2⟩
  ·unfold realT at hru; have := of_decide_eq_false hru; omega
  ·exact ⟨e, h.mem.1 (List.mem_of_getElem? hk), by unfold trip ghostV; rw [e0, e1, e2]⟩
 obtain ⟨e, he, heT⟩ := hgv t T hT hr
 have hv : T.v0 = (e.2 : Int) ∧ T.v1 = (e.1 : Int) ∧ T.v2 = -1 := by
  unfold trip ghostV at heT
  simp only [Prod.mk.injEq] at heT
  exact heT
 have hj2 : j = 2 := by
  obtain rfl | rfl | rfl : j = 0 ∨ j = 1 ∨ j = 2 := by omega
  ·have : T.v 0 = T.v0 := rfl; omega
  ·have : T.v 1 = T.v1 := rfl; omega
  ·rfl
 subst hj2
 have hcr : 0 < crP (ptA (gridP W H) e.2) (ptA (gridP W H) e.1) p := by
  rw [sideT_is] at hjs
  have h0 : ptT (gridP W H) T ((2 + 1) % 3) = ptA (gridP W H) e.2 := by unfold ptT; show ptA _ (T.v0).toNat = _; rw [hv.1]; rfl
  have h1 : ptT (gridP W H) T ((2 + 2) % 3) = ptA (gridP W H) e.1 := by unfold ptT; show ptA _ (T.v1).toNat = _; rw [hv.2.1]; rfl
  rw [h0, h1] at hjs
  exact sign_pos.1 hjs
 have hg := grid_edgeG hW hH hb
 have hsg : sideG W H e = true := by
  unfold edgeG at hg
  simp only [Bool.and_eq_true] at hg
  exact List.all_eq_true.1 hg.1.1.1.1.1 e he
 have hp : ¬ InBox W H p := face_out hsg hcr
 obtain ⟨K, hK⟩ : ∃ K, ((borderT (gridT W H 0)).map ghostV).filter (confO W H (decide (p.1 < 0)) (decide (2 * (W : Int) < p.1)) (decide (p.2 < 0)) (decide (2 * (H : Int) < p.2))) = K := ⟨_, rfl⟩
 have hout := grid_outer hW hH (decide (p.1 < 0)) (decide (2 * (W : Int) < p.1)) (decide (p.2 < 0)) (decide (2 * (H : Int) < p.2))
  (by cases hq : decide (p.1 < 0) with
    | false => rfl
    | true => have := of_decide_eq_true hq; rw [Bool.true_and]; exact decide_eq_false (by omega))
  (by cases hq : decide (p.2 < 0) with
    | false => rfl
    | true => have := of_decide_eq_true hq; rw [Bool.true_and]; exact decide_eq_false (by omega))
 unfold outerG at hout
 rw [hK] at hout
 have hKm : ∀ y, y ∈ K ↔ y ∈ allV (gridT W H bn) Bd ∧ conflictM (gridP W H) (triOf y) p = true := by
  intro y
  rw [← hK, List.mem_filter, List.mem_map]
  unfold allV
  rw [List.mem_append, List.mem_map, List.mem_map]
  constructor
  ·rintro ⟨⟨e', he', rfl⟩, hc⟩
   have he2 := (grid_border hW hH hb e').2 he'
   exact ⟨.inr ⟨e', h.mem.2 he2, rfl⟩, by rw [(ghost_conf hW hH hb he2 hp).1]; exact hc⟩
  ·rintro ⟨⟨x, hx, rfl⟩ | ⟨e', he', rfl⟩, hc⟩
   ·rw [real_conf hW hH hb hx hp] at hc; cases hc
   ·have he2 := h.mem.1 he'
    exact ⟨⟨e', (grid_border hW hH hb e').1 he2, rfl⟩, by rw [← (ghost_conf hW hH hb he2 hp).1]; exact hc⟩
 have hTK : trip T ∈ K := (hKm _).2 ⟨h.surf.trip_mem hT, by rw [heT]; exact (ghost_conf hW hH hb he hp).2.2 hcr⟩
 have h1 := List.all_eq_true.1 hout _ hTK
 rw [Bool.and_eq_true] at h1
 have hnd : (outerH K (trip T)).Nodup := by
  have h4 := h1.2
  unfold rimB at h4
  simp only [Bool.and_eq_true] at h4
  exact of_decide_eq_true h4.2
 have hst2 : st.map (tripS S) = [trip T] := by rw [hst]; simp [tripS_at hT]
 have hreach : ∀ x, x ∈ outerH K (trip T) ↔ ReachV (allV (gridT W H bn) Bd) fa (fun x => conflictM (gridP W H) (triOf x) p) (st.map (tripS S)) x := by
  intro x
  rw [hst2]
  exact ⟨growN_sound (fun y hy => (hKm y).1 hy) (fun e hf => hgh e hf) 4 (fun x hx => .base hx) x, closed_sound h1.1 (fun y hy => growN_sub 4 hy) (fun y hy hcy => (hKm y).2 ⟨hy, hcy⟩) (fun e hbl => by cases hbl)⟩
 have hperm := hole_perm h.surf hI hIs.is hts (conf_hyp (gridP W H) p) (cv := fun x => conflictM (gridP W H) (triOf x) p) hreach hnd
 have htin : (t : Int) ∈ ts := (hts _).2 (.base (by rw [hst]; simp))
 have hsubK : ∀ x ∈ outerH K (trip T), x ∈ K := by
  have : ∀ n us, (∀ x ∈ us, x ∈ K) → ∀ x ∈ growN K ghostE n us, x ∈ K := by
   intro n
   induction n with
   | zero => intro us hu; exact hu
   | succ n ih =>
    intro us hu
    refine ih _ (fun x hx => ?_)
    unfold growOnce at hx
    rcases List.mem_append.1 hx with hx | hx
    ·exact hu x hx
    ·exact (List.mem_filter.1 hx).1
  exact this 4 _ (fun x hx => by simp only [List.mem_singleton] at hx; rw [hx]; exact hTK)
 refine hole_of h.surf hI hperm h1.2 (.inl fun s hs hgs => ?_) (.inl ⟨(t : Int), htin, ?_⟩)
 ·obtain ⟨u, i, U, hu, hU, hi, -, rfl⟩ := rimP_u hI _ s (inRow_sub s hs)
  have hUK : trip U ∈ K := hsubK _ (hperm.mem_iff.1 (List.mem_map.2 ⟨_, hu, tripS_at hU⟩))
  have hUc := ((hKm _).1 hUK).2
  have hru : realT U = false := by
   rcases h.cases hU with ⟨x, hx, e0, e1, e2⟩ | ⟨k, e', he', hk, e0, e1, e2⟩
   ·have : trip U = realV x := by unfold trip realV; rw [e0, e1, e2]
    rw [this, real_conf hW hH hb (List.mem_of_getElem? hx) hp] at hUc; cases hUc
   ·unfold realT; exact decide_eq_false (by omega)
  obtain ⟨e', he', heU⟩ := hgv u U hU hru
  rw [heU] at hUc
  have hcr' := (ghost_conf hW hH hb he' hp).2.1 hUc
  have hv' : U.v0 = (e'.2 : Int) ∧ U.v1 = (e'.1 : Int) ∧ U.v2 = -1 := by
   unfold trip ghostV at heU
   simp only [Prod.mk.injEq] at heU
   exact heU
  obtain rfl | rfl | rfl : i = 0 ∨ i = 1 ∨ i = 2 := by omega
  ·exfalso; unfold ghostE SideM.ab sideS edgeV at hgs; simp [hv'.2.2] at hgs
  ·exfalso; unfold ghostE SideM.ab sideS edgeV at hgs; simp [hv'.2.2] at hgs
  ·show 0 < crP (ptA _ (U.v0).toNat) (ptA _ (U.v1).toNat) p
   rw [hv'.1, hv'.2.1]; exact hcr'
 ·rw [tripS_at hT, heT]
  unfold realT triOf ghostV; exact decide_eq_false (by simp only []; omega)
/-- Every hole of a grid. -/
theorem hole_grid (h : Built fa (gridT W H bn) Bd S) (hW : W = 1 ∨ W = 2) (hH : H = 1 ∨ H = 2) (hb : bn < 16) (hfa : ∀ a b, fa a b = fa b a) (hgh : ∀ e : Int × Int, ghostE e = true → fa e.1 e.2 = false)
  {x : Int × Int × Int × Int} (hs : StartIs (gridP W H) S p x st) (hI : InS S ts) (hts : ∀ z, z ∈ ts ↔ Reach S (confT (gridP W H) S p) st z) : HoleOk (gridP W H) S p ts := by
 have hIs := (start_in hs).1
 obtain ⟨t, T, -, hT, ⟨-, hst, ⟨hr, hh, hc, hk⟩ | ⟨hr, hf⟩⟩ | ⟨-, k, u, -, hn, -, -, -, -, hst, hr, hh, hc, hk⟩⟩ := hs
 ·exact hole_in h hW hH hb hfa hgh hT hr hh hc (.inl hk) hI hIs hts
 ·exact hole_out h hW hH hb hgh hT hr hf hst hI hIs hts
 ·exact hole_in h hW hH hb hfa hgh hT hr hh hc (.inr ⟨k, u, hn, hst, hk⟩) hI hIs hts
theorem faF_ghost (F : Int → Int → Bool) (e : Int × Int) (h : ghostE e = true) : faF F e.1 e.2 = false := by
 unfold ghostE at h
 simp only [Bool.or_eq_true, beq_iff_eq] at h
 unfold faF
 rcases h with h | h <;> rw [h] <;> simp
end
end Go.Proofs.YtnabdopnlinklaaGreat
/- CavityRims: what the program answers. Written by tools/cav12.py. -/
namespace Go.Proofs.YtnabdopnlinklaaGreat
open Go.RowKit Go.MagM Go.Maps
theorem meshIn_ne {n mb pb : Nat} {ta : Option Addr} (h : MeshIn (fun b => b < n) mb pb ta) : MeshIn (fun b => b ≠ n) mb pb ta :=
 ⟨Nat.ne_of_lt h.m, Nat.ne_of_lt h.p, fun b hb => Nat.ne_of_lt (h.t b hb)⟩
/-- The statements' set of triangles. -/
def inE (us : List Int) : List (Value × Value) := us.map fun t => (.int .i64 t, .int .i64 1)
theorem in_look {w : World} {b : Nat} {us : List Int} (h : MapB Tryz.prog 3 w b (inE us)) {t : Int} (ht : -1000000 ≤ t ∧ t ≤ 1000000) :
  (Instr.lookup 31 (.map (some b)) (.int .i64 t) false).run Tryz.prog w = .ok (.int .i64 (if t ∈ us then 1 else 0)) w := by
 rcases h.look keyedI Tryz.underlying31 (keyI_of ht) (z := .int .i64 0) (by kernel_rfl) false with ⟨v, hv, hr⟩ | ⟨hno, hr⟩
 ·obtain ⟨x, hx, e⟩ := List.mem_map.1 hv
  simp only [Prod.mk.injEq, Value.int.injEq, true_and] at e
  obtain ⟨rfl, rfl⟩ := e
  rw [if_pos hx]; exact hr
 ·rw [if_neg (fun hx => hno (.int .i64 1) (List.mem_map.2 ⟨t, hx, rfl⟩))]; exact hr
/-- One more, if it isn't there. -/
def addI (us : List Int) (t : Int) : List Int := if t ∈ us then us else us ++ [t]
theorem in_store {w : World} {b : Nat} {us : List Int} (h : MapB Tryz.prog 3 w b (inE us)) {t : Int} (ht : -1000000 ≤ t ∧ t ≤ 1000000) :
  ∃ w', (Instr.mapUpdate 31 (.map (some b)) (.int .i64 t) (.int .i64 1)).run Tryz.prog w = .ok () w' ∧ Turned w w' b ∧ MapB Tryz.prog 3 w' b (inE (addI us t)) := by
 obtain ⟨w', m', h1, h2, h3, h4⟩ := h.store keyedI Tryz.underlying31 (keyI_of ht) (.int .i64 1)
 refine ⟨w', h1, h2, ?_⟩
 unfold addI
 rcases h4 with ⟨hno, rfl⟩ | ⟨j, u, hj, rfl⟩
 ·rw [if_neg (fun hx => hno (.int .i64 1) (List.mem_map.2 ⟨t, hx, rfl⟩))]
  unfold inE; rw [List.map_append]; exact h3
 ·have hu := hj
  unfold inE at hu
  rw [List.getElem?_map] at hu
  cases hx : us[j]? with
  | none => rw [hx] at hu; cases hu
  | some x =>
   rw [hx] at hu
   simp only [Option.map_some, Option.some.injEq, Prod.mk.injEq, Value.int.injEq, true_and] at hu
   obtain ⟨rfl, rfl⟩ := hu
   rw [if_pos (List.mem_of_getElem? hx)]
   have e : (inE us).set j (.int .i64 x, .int .i64 1) = inE us := List.ext_getElem? fun i => by
    rw [List.getElem?_set]
    split
    ·rename_i hij; subst hij
     rw [if_pos (List.getElem?_eq_some_iff.1 hj).1, hj]
    ·rfl
   rw [e] at h3; exact h3
/-- How many sides some triangles have. -/
def sidesN (S : List TriM) (ts : List Int) (l : List Int) : Nat := match l with
 | [] => 0
 | t :: r => (rimT S ts t).length + sidesN S ts r
theorem sidesN_app (S : List TriM) (ts : List Int) : ∀ l k, sidesN S ts (l ++ k) = sidesN S ts l + sidesN S ts k
 | [], k => by simp [sidesN]
 | t :: l, k => by show _ + sidesN S ts (l ++ k) = _ + sidesN S ts l + _; rw [sidesN_app S ts l k]; omega
theorem sidesN_perm {S : List TriM} {ts l k : List Int} (h : l.Perm k) : sidesN S ts l = sidesN S ts k := by
 induction h with
 | nil => rfl
 | cons x _ ih => show _ + _ = _ + _; rw [ih]
 | swap x y l => simp only [sidesN]; omega
 | trans _ _ ih1 ih2 => rw [ih1, ih2]
theorem sidesN_le (S : List TriM) (ts : List Int) : ∀ l, sidesN S ts l ≤ 3 * l.length
 | [] => Nat.le_refl _
 | t :: r => by have := sidesN_le S ts r; have := rimT_le S ts t; show _ + _ ≤ 3 * (r.length + 1); omega
theorem sidesN_rim (S : List TriM) (ts : List Int) : ∀ n, n ≤ ts.length → sidesN S ts (ts.take n) = (rimP S ts n).length
 | 0, _ => rfl
 | n + 1, hn => by
  obtain ⟨z, hz⟩ : ∃ z, ts[n]? = some z := ⟨_, List.getElem?_eq_getElem (by omega)⟩
  rw [List.take_add_one, hz, sidesN_app, sidesN_rim S ts n (by omega), rimP, hz, List.length_append]
  simp [sidesN]
set_option maxRecDepth 100000 in
set_option maxHeartbeats 16000000 in
theorem CavityRims_walk (b0 f0 a0 a1 : Int) (w : World) :
  Calls Tryz.prog 4 #[.int .u32 b0, .int .u32 f0, .agg #[.int .i64 a0, .int .i64 a1]] w fun e w' => e = .returned (.bool true) ∧ Below w.heap.size w w' := by
 obtain ⟨w1, hw1, pp, hb1, hs1⟩ := new_box w _ rfl [.int .i64 a0, .int .i64 a1] 24
 have HF := Lib.hid (fit11_any w1)
 have PP := Lib.hid pp; have HB1 := Lib.hid hb1; have HS1 := Lib.hid hs1
 have k0 := pp.c 0 _ rfl; have k1 := pp.c 1 _ rfl
 clear pp hb1 hs1
 go_enter Tryz.func4, Tryz.ntmps4
 go_wp2_with fail
 refine HF.out.mono ?_
 rintro e w2 ⟨rfl, hb2⟩
 have pp2 := PP.out.below hb2
 have y0 := pp2.c 0 _ rfl; have y1 := pp2.c 1 _ rfl
 have HB2 := Lib.hid hb2
 clear hb2 pp2 k0 k1
 go_wp2_with fail
 refine (made_any b0 f0 a0 a1 w2).mono ?_
 rintro e w3 ⟨B, mb, pb, pc, tb, tc, g, W, H, bn, F, Bd, S, x0, x1, x2, x3, rfl, hx, hgi, hB, -, hb3⟩
 obtain ⟨p0, hp0⟩ : ∃ q, tame a0 = q := ⟨_, rfl⟩
 obtain ⟨p1, hp1⟩ : ∃ q, tame a1 = q := ⟨_, rfl⟩
 have hi0 : InP p0 := by rw [← hp0]; exact tame_in a0
 have hi1 : InP p1 := by rw [← hp1]; exact tame_in a1
 rw [hp0, hp1] at hx ⊢
 have hb13 : Below w1.heap.size w1 w3 := HB2.out.trans (hb3.mono HB2.out.size)
 have pp3 := PP.out.below hb13
 obtain ⟨w4, hw4, pl4, hb4, hs4⟩ := new_box w3 _ rfl [.int .i64 0, .int .i64 0, .int .i64 0, .int .i64 0] 28
 have pp4 := pp3.below hb4
 obtain ⟨w5, hw5⟩ : ∃ w5, setAll w4 w.heap.size 0 [.int .i64 p0, .int .i64 p1] = w5 := ⟨_, rfl⟩
 have pp5 : Box w5 w.heap.size [.int .i64 p0, .int .i64 p1] := by rw [← hw5]; exact pp4.setAll [.int .i64 p0, .int .i64 p1] rfl
 have ht5 : Turned w4 w5 w.heap.size := by rw [← hw5]; exact turned_setAll _ _ (Turned.refl _ _)
 have hz1 := HS1.out; have hz2 := HB2.out.size; have hz3 := hb3.size
 have pl5 := pl4.turned ht5 (by omega)
 obtain ⟨w6, hw6⟩ : ∃ w6, setAll w5 w3.heap.size 0 [.int .i64 x0, .int .i64 x1, .int .i64 x2, .int .i64 x3] = w6 := ⟨_, rfl⟩
 have ht6 : Turned w5 w6 w3.heap.size := by rw [← hw6]; exact turned_setAll _ _ (Turned.refl _ _)
 have pl6 : Box w6 w3.heap.size [.int .i64 x0, .int .i64 x1, .int .i64 x2, .int .i64 x3] := by rw [← hw6]; exact pl5.setAll [.int .i64 x0, .int .i64 x1, .int .i64 x2, .int .i64 x3] rfl
 have pp6 := pp5.turned ht6 (by omega)
 have hg5 := (hgi.below hb4).turned ht5 (by omega)
 have hr6 : MeshR w6 mb pb pc (some ⟨tb, 0, none⟩) tc (gridP W H) S := by
  have h3 := hgi.read.in_ (by have := hgi.sizes; omega) (by have := hgi.sizes; omega)
  exact hg5.read.keep (meshIn_ne h3) (fun b hb => ht6.block b hb)
 have hm6 : MeshO 24 37 w6 B mb pb pc (.slice (some ⟨tb, 0, none⟩) S.length tc) (gridP W H) S := by
  have h3 := hgi.read.in_ (by have := hgi.sizes; omega) (by have := hgi.sizes; omega)
  exact hg5.mesh.turned ht6 (by have := h3.m; omega) (by have := h3.p; omega) (fun e => absurd (h3.t tb rfl) (by simp [Value.ownBlock] at e; omega))
 have hb06 : Below w.heap.size w w6 := by
  have q1 : Below w.heap.size w w3 := HB1.out.trans (hb13.mono (by omega))
  exact ((q1.trans (hb4.mono (by omega))).trans (ht5.below (Nat.le_refl _))).trans (ht6.below (by omega))
 have hsz6 : w6.heap.size = w3.heap.size + 1 := by rw [ht6.size, ht5.size, hs4]
 have HW := Lib.hid hgi.hW; have HH := Lib.hid hgi.hH; have HBN := Lib.hid hgi.hb; have HBU := Lib.hid hgi.built; have HIP := Lib.hid (grid_inPs hgi.hW hgi.hH)
 have PA4 := Lib.hid pp4; have W5 := Lib.hid hw5; have PL5 := Lib.hid pl5; have W6 := Lib.hid hw6
 have P6 := Lib.hid pp6; have L6 := Lib.hid pl6; have R6 := Lib.hid hr6; have M6 := Lib.hid hm6; have B06 := Lib.hid hb06; have S6 := Lib.hid hsz6
 have HX := Lib.hid hx; have HI := Lib.hid (And.intro hi0 hi1)
 have hok2 : ∀ q : Bool, (x0 != 2) = q → True := fun _ _ => trivial
 obtain ⟨ok, hok⟩ : ∃ q, (x0 != 2) = q := ⟨_, rfl⟩
 rw [hok]
 have HOK := Lib.hid hok
 clear hok hok2 hx hgi hB hb3 hp0 hp1 hi0 hi1 hb13 pp3 pl4 hb4 hs4 pp4 hw5 pp5 ht5 hz1 hz2 hz3 pl5 hw6 ht6 pl6 pp6 hg5 hr6 hm6 hb06 hsz6 y0 y1
 cases ok
 ·go_wp2_with (first | (with_reducible refine wpList_store_box rfl _ _ _ rfl [.int .i64 p0, .int .i64 p1] PA4.out rfl rfl (by kernel_rfl) (by simp) rfl W5.out ?_) | (with_reducible refine wpList_store_box rfl _ _ _ rfl [.int .i64 x0, .int .i64 x1, .int .i64 x2, .int .i64 x3] PL5.out rfl rfl (by kernel_rfl) (by simp) rfl W6.out ?_))
  go_ret
  exact ⟨rfl, B06.out⟩
 obtain ⟨st, hst⟩ := grid_start HBU.out HW.out HH.out HBN.out HX.out (by simpa using HOK.out)
 have HST := Lib.hid hst
 have HDIG := Lib.hid (fun (V : World) (hV : Below w6.heap.size w6 V) => gridDig_any HBU.out HW.out HH.out HBN.out p0 p1 x0 x1 x2 x3 V (R6.out.below hV) HI.out hst)
 clear hst
 have hsz := grid_size HBU.out HW.out HH.out HBN.out
 have c0 := P6.out.c 0 _ rfl; have c1 := P6.out.c 1 _ rfl
 have d0 := L6.out.c 0 _ rfl; have d1 := L6.out.c 1 _ rfl; have d2 := L6.out.c 2 _ rfl; have d3 := L6.out.c 3 _ rfl
 go_wp2_with (first | (with_reducible refine wpList_store_box rfl _ _ _ rfl [.int .i64 p0, .int .i64 p1] PA4.out rfl rfl (by kernel_rfl) (by simp) rfl W5.out ?_) | (with_reducible refine wpList_store_box rfl _ _ _ rfl [.int .i64 x0, .int .i64 x1, .int .i64 x2, .int .i64 x3] PL5.out rfl rfl (by kernel_rfl) (by simp) rfl W6.out ?_))
 refine (HDIG.out _ (Below.refl _ _)).mono ?_
 rintro e wg ⟨gg, gc, rv, ts, rfl, hIt, hts, hrow, hrr, hbg⟩
 have hok := hole_grid HBU.out HW.out HH.out HBN.out (faF_comm F) (faF_ghost F) HST.out hIt hts
 have hru : ∀ s ∈ inRowM (rimP S ts ts.length), ∃ (t i : Nat) (X : TriM), (t : Int) ∈ ts ∧ S[t]? = some X ∧ i < 3 ∧ X.n i ∉ ts ∧ s = sideS S X i := fun s hs => rimP_u hIt _ s (inRow_sub s hs)
 have hcyc := hok.rim.cyc
 have hlst := hok.rim.least
 have hallr := hok.rim.all
 have hsd := sidesN_rim S ts ts.length (Nat.le_refl _)
 rw [List.take_length, ← hallr] at hsd
 obtain ⟨q, hq⟩ : ∃ q, (inRowM (rimP S ts ts.length)).any (cutQ2 (gridP W H) S (p0, p1)) = q := ⟨_, rfl⟩
 rw [hq]
 have hrn48 : (inRowM (rimP S ts ts.length)).length ≤ 48 := by
  have h1 := inRow_le (rimP S ts ts.length)
  have := rimP_le S ts ts.length; have := hIt.le; omega
 obtain ⟨R, hR⟩ : ∃ R, inRowM (rimP S ts ts.length) = R := ⟨_, rfl⟩
 rw [hR] at hrr hru hcyc hlst hsd hq hrn48
 have htn16 : ts.length ≤ 16 := by have := hIt.le; omega
 obtain ⟨rn, hrn⟩ : ∃ rn, R.length = rn := ⟨_, rfl⟩
 rw [hrn] at hrr hrn48 hsd hcyc
 obtain ⟨ro, rc, rfl⟩ : ∃ ro rc, rv = .slice ro rn rc := by
  rcases hrr.2 with ⟨h1, h2⟩ | ⟨g1, cap1, cur1, h1, -⟩
  ·exact ⟨_, _, by rw [h1, h2]⟩
  ·exact ⟨_, _, h1⟩
 obtain ⟨tn, htn⟩ : ∃ tn, ts.length = tn := ⟨_, rfl⟩
 rw [htn] at hrow htn16 ⊢
 obtain ⟨wh, hwh, ph, hbh, hsh⟩ := new_box wg _ rfl [.slice (some ⟨gg, 0, none⟩) tn gc, .slice ro rn rc, .bool q] 46
 have hb6h : Below w6.heap.size w6 wh := hbg.trans (hbh.mono hbg.size)
 have hrun := (run_new_map (P := Tryz.prog) wh 31 3).1
 have hmap := (run_new_map (P := Tryz.prog) wh 31 3).2
 obtain ⟨wi, hwi⟩ : ∃ wi, wh.alloc (.map #[] 0) = wi := ⟨_, rfl⟩
 rw [hwi] at hrun hmap
 have hbi : Below wh.heap.size wh wi := by rw [← hwi]; exact (Below.refl _ _).alloc (Nat.le_refl _) _
 have hrow' := hrow.below hbh; have hrr' := hrr.below hbh
 have x0 := (ph.below hbi).c 0 _ rfl
 have HRO := Lib.hid hrow'; have HRR := Lib.hid hrr'; have PH := Lib.hid ph; have HBH := Lib.hid hb6h; have HBI := Lib.hid hbi
 have HRU := Lib.hid hru; have HCY := Lib.hid hcyc; have HLS := Lib.hid hlst; have HSD := Lib.hid hsd; have HQ := Lib.hid hq; have HRN := Lib.hid hrn; have HTN := Lib.hid htn; have HIT := Lib.hid hIt
 have HM0 := Lib.hid (show MapB Tryz.prog 3 wi wh.heap.size (inE []) from hmap)
 obtain ⟨ib, hib⟩ : ∃ ib, wh.heap.size = ib := ⟨_, rfl⟩
 have HIB := Lib.hid hib
 have HBI2 := Lib.hid (show wh.heap.size < wi.heap.size by rw [← hwi]; simp)
 clear hIt hts hrow hrr hbg hok hru hcyc hlst hallr hsd hq hR hrn htn ph hbh hsh hb6h hmap hbi hrow' hrr' hwi c0 c1 d0 d1 d2 d3 hib
 go_wp2
 clear x0 hrun
 go_loopw [46] (fun iv wv => ∃ k : Nat, k ≤ tn ∧ iv = .int .i64 (k : Int) ∧ MapB Tryz.prog 3 wv wh.heap.size (inE ((sortL ts).take k)) ∧ Below wh.heap.size wh wv) (fun iv _ => tn - (intOf iv).toNat)
 case atStart => exact ⟨0, Nat.zero_le _, rfl, HM0.out, HBI.out⟩
 case round =>
  obtain ⟨k, hk, rfl, hm, hbv⟩ := hrel
  by_cases hlt : k < tn
  ·have e1 : decide ((k : Int) < (tn : Int)) = true := decide_eq_true (by omega)
   have e2 : decide (k < tn) = true := decide_eq_true hlt
   obtain ⟨z, hz⟩ : ∃ z, (sortL ts)[k]? = some z := ⟨_, List.getElem?_eq_getElem (by rw [sortL_len, HTN.out]; exact hlt)⟩
   have hzt : z ∈ ts := (sortL_perm ts).mem_iff.1 (List.mem_of_getElem? hz)
   obtain ⟨zn, hzn, hznl⟩ := HIT.out.is z hzt
   have y0 : wr.cell? ⟨gg, k, none⟩ = some (.int .i64 z) := (HRO.out.below hbv).cells rfl k _ (by unfold intCells; rw [List.getElem?_map, hz]; rfl)
   obtain ⟨wz, hsz', htz, hmz⟩ := in_store hm (t := z) (by omega)
   have hst' : Sem.run Tryz.prog (Instr.mapUpdate 31 (.map (some wh.heap.size)) (.int .i64 z) (.int .i64 1)) wr = .ok () wz := hsz'
   have hnin : z ∉ (sortL ts).take k := by
    intro hc
    obtain ⟨j, hj⟩ := List.mem_iff_getElem?.1 hc
    rw [List.getElem?_take] at hj
    split at hj
    ·rename_i hjk
     have h2 := ((sortL_perm ts).nodup_iff).2 HIT.out.once
     have := (List.getElem?_inj (List.getElem?_eq_some_iff.1 hj).1 h2).1 (hj.trans hz.symm)
     omega
    ·cases hj
   have FIN := Lib.hid (And.intro (show MapB Tryz.prog 3 wz wh.heap.size (inE ((sortL ts).take (k + 1))) by
    rw [List.take_add_one, hz]; unfold addI at hmz; rw [if_neg hnin] at hmz; exact hmz) (hbv.trans (htz.below (Nat.le_refl _))))
   have i1 : (0 : Int) ≤ (k : Int) := by omega
   have i2 : (k : Int) < (tn : Int) := by omega
   clear hm hbv hz hzt hzn hznl hsz' htz hmz hnin
   go_wp2
   go_roundw
   case rel => exact ⟨k + 1, by omega, by go_num, FIN.out.1, FIN.out.2⟩
   case measure => simp [intOf]; omega
  ·obtain rfl : k = tn := by omega
   have e1 : decide ((k : Int) < (k : Int)) = false := decide_eq_false (by omega)
   rw [List.take_of_length_le (by rw [sortL_len, HTN.out]; exact Nat.le_refl _)] at hm
   obtain ⟨wl, hwl⟩ : ∃ wl, wl = wr := ⟨_, rfl⟩
   subst hwl
   have x0 := (PH.out.below hbv).c 0 _ rfl
   have HM := Lib.hid hm; have HBV := Lib.hid hbv
   have HLK := Lib.hid (show ∀ V : World, Below wl.heap.size wl V → ∀ z : Int, -1000000 ≤ z ∧ z ≤ 1000000 → Sem.run Tryz.prog (Instr.lookup 31 (.map (some wh.heap.size)) (.int .i64 z) false) V = Result.ok (Value.int .i64 (if z ∈ ts then 1 else 0)) V from fun V hV z hz => by
    have h1 := in_look (hm.below hV) hz
    have h2 : (z ∈ sortL ts) = (z ∈ ts) := propext (sortL_perm ts).mem_iff
    simp only [h2] at h1
    exact h1)
   obtain ⟨len, hlen⟩ : ∃ len, S.length = len := ⟨_, rfl⟩
   have HLEN := Lib.hid hlen
   rw [hlen] at hsz
   clear hm hbv hlen
   go_wp2
   clear x0
   go_loopw [14, 56] (fun sv iv wv => ∃ j : Nat, j ≤ k ∧ sv = .int .i64 (sidesN S ts ((sortL ts).take j) : Int) ∧ iv = .int .i64 (j : Int) ∧ Below wl.heap.size wl wv) (fun _ iv _ => k - (intOf iv).toNat)
   case atStart => exact ⟨0, Nat.zero_le _, rfl, rfl, Below.refl _ _⟩
   case round =>
    obtain ⟨j, hj, rfl, rfl, hbj⟩ := hrel
    by_cases hlt2 : j < k
    ·have e3 : decide ((j : Int) < (k : Int)) = true := decide_eq_true (by omega)
     have e4 : decide (j < k) = true := decide_eq_true hlt2
     obtain ⟨z, hz⟩ : ∃ z, (sortL ts)[j]? = some z := ⟨_, List.getElem?_eq_getElem (by rw [sortL_len, HTN.out]; exact hlt2)⟩
     have hzt : z ∈ ts := (sortL_perm ts).mem_iff.1 (List.mem_of_getElem? hz)
     obtain ⟨t, rfl, htl⟩ := HIT.out.is z hzt
     obtain ⟨X, hX⟩ : ∃ X, S[t]? = some X := ⟨_, List.getElem?_eq_getElem htl⟩
     have hbk := HBV.out.trans (hbj.mono HBV.out.size)
     have hb6 := HBH.out.trans (hbk.mono HBH.out.size)
     have y0 : wr.cell? ⟨gg, j, none⟩ = some (.int .i64 (t : Int)) := (HRO.out.below hbk).cells rfl j _ (by unfold intCells; rw [List.getElem?_map, hz]; rfl)
     have hr := R6.out.below hb6
     have f1 := hr.box.c1
     rw [HLEN.out] at f1 htl
     obtain ⟨tb', hta, -, h9⟩ := hr.tris.get hX
     cases hta
     have n3 := h9.c3; have n4 := h9.c4; have n5 := h9.c5
     have i1 : (0 : Int) ≤ (j : Int) := by omega
     have i2 : (j : Int) < (k : Int) := by omega
     have i3 : (0 : Int) ≤ (t : Int) := by omega
     have i4 : (t : Int) < (len : Int) := by omega
     obtain ⟨sn, hsn⟩ : ∃ s, sidesN S ts ((sortL ts).take j) = s := ⟨_, rfl⟩
     have hsnl : sn ≤ 48 := by
      have := sidesN_le S ts ((sortL ts).take j)
      rw [hsn, List.length_take] at this; omega
     have HSN := Lib.hid (show sidesN S ts ((sortL ts).take (j + 1)) = sn + (rimI S ts X 3).length by
      rw [List.take_add_one, hz, sidesN_app, hsn]
      show sn + ((rimT S ts (t : Int)).length + 0) = _
      unfold rimT; rw [Int.toNat_natCast, hX]; rfl)
     rw [hsn]
     have HX2 := Lib.hid hX; have HBJ := Lib.hid hbj
     clear hz hzt htl hX hbk hb6 hr h9 hsn hbj
     go_wp2
     clear y0 f1 n3 n4 n5
     go_loopw [14, 68] (fun sv iv wv => ∃ i : Nat, i ≤ 3 ∧ sv = .int .i64 ((sn + (rimI S ts X i).length : Nat) : Int) ∧ iv = .int .i64 (i : Int) ∧ Below wl.heap.size wl wv) (fun _ iv _ => 3 - (intOf iv).toNat)
     case atStart => exact ⟨0, Nat.zero_le _, rfl, rfl, HBJ.out⟩
     case round =>
      obtain ⟨i, hi, rfl, rfl, hbq⟩ := hrel
      by_cases hi3 : i < 3
      ·obtain ⟨u, hu, hul⟩ := built_nexts HBU.out t X HX2.out i hi3
       have ir : ∀ V : World, (Instr.index 34 (.agg #[.int .i64 X.n0, .int .i64 X.n1, .int .i64 X.n2]) (.int .i64 (i : Int))).run Tryz.prog V = .ok (.int .i64 (u : Int)) V := fun V => by
        rw [index3v_run ⟨X.n0, X.n1, X.n2, 0, 0, 0, false, false, false⟩ i hi3 V, ← hu]
        obtain rfl | rfl | rfl : i = 0 ∨ i = 1 ∨ i = 2 := by omega
        all_goals rfl
       have e5 : decide ((i : Int) < 3) = true := decide_eq_true (by omega)
       have hlk := HLK.out wr hbq (u : Int) (by have := HLEN.out; omega)
       obtain ⟨rl, hrl⟩ : ∃ r, (rimI S ts X i).length = r := ⟨_, rfl⟩
       have hrl3 : rl ≤ 3 := by rw [← hrl]; exact Nat.le_trans (rimI_le _ _ _ _) (by omega)
       have HRI := Lib.hid (show (rimI S ts X (i + 1)).length = rl + (if X.n i ∈ ts then 0 else 1) by
        rw [rimI, List.length_append, hrl]; split <;> simp)
       rw [hrl]
       have HBQ := Lib.hid hbq; have HUU := Lib.hid hu
       clear hbq hu hul hrl
       by_cases hm : (u : Int) ∈ ts
       ·rw [if_pos hm] at hlk
        have HR1 := Lib.hid (show (rimI S ts X (i + 1)).length = rl by rw [HRI.out, HUU.out, if_pos hm, Nat.add_zero])
        clear hm
        go_wp2
        go_roundw
        case rel => exact ⟨i + 1, by omega, by rw [HR1.out], by go_num, HBQ.out⟩
        case measure => simp [intOf]; omega
       ·rw [if_neg hm] at hlk
        have HR1 := Lib.hid (show (rimI S ts X (i + 1)).length = rl + 1 by rw [HRI.out, HUU.out, if_neg hm])
        clear hm
        go_wp2
        go_roundw
        case rel => exact ⟨i + 1, by omega, by rw [HR1.out]; go_num, by go_num, HBQ.out⟩
        case measure => simp [intOf]; omega
      ·obtain rfl : i = 3 := by omega
       have HBQ := Lib.hid hbq
       clear hbq
       go_wp2
       go_roundw
       case rel => exact ⟨j + 1, by omega, by rw [HSN.out], by go_num, HBQ.out⟩
       case measure => simp [intOf]; omega
    ·obtain rfl : j = k := by omega
     have e3 : decide ((j : Int) < (j : Int)) = false := decide_eq_false (by omega)
     have hsdn : sidesN S ts ((sortL ts).take j) = rn := by
      rw [List.take_of_length_le (by rw [sortL_len, HTN.out]; exact Nat.le_refl _), sidesN_perm (sortL_perm ts)]; exact HSD.out
     rw [hsdn]
     have x1 := (PH.out.below (HBV.out.trans (hbj.mono HBV.out.size))).c 1 _ rfl
     have HBJ := Lib.hid hbj
     clear hsdn hbj
     go_wp2
     clear x1
     go_loopw [19, 82] (fun cv iv wv => ∃ m : Nat, m ≤ rn ∧ cv = .bool ((R.take m).any (cutQ2 (gridP W H) S (p0, p1))) ∧ iv = .int .i64 (m : Int) ∧ Below wl.heap.size wl wv) (fun _ iv _ => rn - (intOf iv).toNat)
     case atStart => exact ⟨0, Nat.zero_le _, rfl, rfl, HBJ.out⟩
     case round =>
      obtain ⟨wx, hwx⟩ : ∃ wx, wx = wr := ⟨_, rfl⟩
      subst hwx
      obtain ⟨m, hm, rfl, rfl, hbm⟩ := hrel
      obtain ⟨cq, hcq⟩ : ∃ c, (R.take m).any (cutQ2 (gridP W H) S (p0, p1)) = c := ⟨_, rfl⟩
      rw [hcq]
      by_cases hlt3 : m < rn
      ·have e4 : decide ((m : Int) < (rn : Int)) = true := decide_eq_true (by omega)
       have e5 : decide (m < rn) = true := decide_eq_true hlt3
       obtain ⟨rg, rfl⟩ : ∃ rg, ro = some ⟨rg, 0, none⟩ := by
        rcases HRR.out.2 with ⟨h1, h2⟩ | ⟨g1, cap1, cur1, h1, -⟩
        ·have := HRN.out; omega
        ·exact ⟨g1, by injection h1⟩
       obtain ⟨s, r, hs, hr, hsr⟩ := HCY.out m (by have := HRN.out; omega)
       obtain ⟨jp, hjp⟩ : ∃ j, (m + rn - 1) % rn = j := ⟨_, rfl⟩
       have hjl : jp < rn := by rw [← hjp]; exact Nat.mod_lt _ (by omega)
       rw [hjp] at hr
       obtain ⟨s0, hs0⟩ : ∃ s, R[0]? = some s := ⟨_, List.getElem?_eq_getElem (by have := HRN.out; omega)⟩
       have hle := HLS.out s0 hs0 s (List.mem_of_getElem? hs)
       obtain ⟨t, i, X, htm, hX, hi, hno, hsx⟩ := HRU.out s (List.mem_of_getElem? hs)
       obtain ⟨u, jj, U, hU, hjj, he, hn, hf, hn2, hf2⟩ := HBU.out.surf.other hX hi
       have su : s.u = (u : Int) := by rw [hsx]; exact hn
       have sfe : s.f = U.f jj := by rw [hsx]; show X.f i = _; rw [hf, hf2, faF_comm]
       have hji := HBU.out.surf.edge_at hU hjj
       rw [he] at hji
       have sie : s.i = (jj : Int) := by
        rw [hsx]
        show outI S (X.n i) (edgeV X i).2 (edgeV X i).1 = _
        unfold outI; rw [hn, Int.toNat_natCast, hU]; exact hji
       have sab : (s.b, s.a) = edgeV U jj := by rw [hsx, he]; rfl
       have hnu : (u : Int) ∉ ts := by rw [← hn]; exact hno
       have hul := (List.getElem?_eq_some_iff.1 hU).1
       have htl := (List.getElem?_eq_some_iff.1 hX).1
       have hcs : cutQ2 (gridP W H) S (p0, p1) s = (s.f && conflictM (gridP W H) U (p0, p1)) := by
        unfold cutQ2 confT; rw [su, Int.toNat_natCast, hU]
       have hany : (R.take (m + 1)).any (cutQ2 (gridP W H) S (p0, p1)) = (cq || (s.f && conflictM (gridP W H) U (p0, p1))) := by
        rw [List.take_add_one, hs, List.any_append, hcq, ← hcs]; simp
       have hrc := HRR.out.below (HBV.out.trans (hbm.mono HBV.out.size))
       have k0 : wx.cell? ⟨rg, m * 5, none⟩ = some (.int .i64 s.a) := hrc.cells rfl _ _ (by rw [show m * 5 = m * 5 + 0 by omega, sideCells_get R m 0 s hs (by omega)]; rfl)
       have k1 : wx.cell? ⟨rg, m * 5 + 1, none⟩ = some (.int .i64 s.b) := hrc.cells rfl _ _ (by rw [sideCells_get R m 1 s hs (by omega)]; rfl)
       have k2 : wx.cell? ⟨rg, m * 5 + 2, none⟩ = some (.int .i64 s.u) := hrc.cells rfl _ _ (by rw [sideCells_get R m 2 s hs (by omega)]; rfl)
       have k3 : wx.cell? ⟨rg, m * 5 + 3, none⟩ = some (.int .i64 s.i) := hrc.cells rfl _ _ (by rw [sideCells_get R m 3 s hs (by omega)]; rfl)
       have k4 : wx.cell? ⟨rg, m * 5 + 4, none⟩ = some (.bool s.f) := hrc.cells rfl _ _ (by rw [sideCells_get R m 4 s hs (by omega)]; rfl)
       have k5 : ∀ w', Below wx.heap.size wx w' → w'.cell? ⟨rg, jp * 5 + 1, none⟩ = some (.int .i64 s.a) := fun w' hb => (hrc.below hb).cells rfl _ _ (by rw [sideCells_get R jp 1 r hr (by omega), hsr]; rfl)
       have k6 : ∀ w', Below wx.heap.size wx w' → w'.cell? ⟨rg, 0, none⟩ = some (.int .i64 s0.a) := fun w' hb => (hrc.below hb).cells rfl _ _ (by have := sideCells_get R 0 0 s0 hs0 (by omega); rw [Nat.zero_mul, Nat.zero_add] at this; rw [this]; rfl)
       obtain ⟨qc, hqc⟩ : ∃ q, conflictM (gridP W H) U (p0, p1) = q := ⟨_, rfl⟩
       rw [hqc] at hany
       have HLC := Lib.hid (fun (V : World) (hV : Below w6.heap.size w6 V) => show Calls Tryz.prog 15 #[.pointer (some ⟨mb, 0, none⟩), .int .i64 (u : Int), .agg #[.int .i64 p0, .int .i64 p1]] V fun e w' => e = .returned (.bool qc) ∧ Below V.heap.size V w' from by
        rw [← hqc]
        rcases grid_tri HBU.out HW.out HH.out HBN.out hU with ⟨hr, hv⟩ | ⟨hr, e2, h0, h1⟩
        ·exact lwConflict_real u U p0 p1 V (R6.out.below hV) HIP.out HI.out hU hr hv
        ·exact lwConflict_ghost u U p0 p1 V (R6.out.below hV) HIP.out HI.out hU e2 h0 h1)
       have HED := Lib.hid (fun V => lwEdge_any U jj hjj V)
       rw [← sab] at HED
       have hnn : ∀ (g : Nat) (w' : World), Box w' g U.cells → w'.cell? ⟨g, 3 + jj, none⟩ = some (.int .i64 (t : Int)) := fun g w' hb => by
        rw [← hn2]
        obtain rfl | rfl | rfl : jj = 0 ∨ jj = 1 ∨ jj = 2 := by omega
        ·exact hb.c 3 _ rfl
        ·exact hb.c 4 _ rfl
        ·exact hb.c 5 _ rfl
       have hff : ∀ (g : Nat) (w' : World), Box w' g U.cells → w'.cell? ⟨g, 6 + jj, none⟩ = some (.bool s.f) := fun g w' hb => by
        rw [sfe]
        obtain rfl | rfl | rfl : jj = 0 ∨ jj = 1 ∨ jj = 2 := by omega
        ·exact hb.c 6 _ rfl
        ·exact hb.c 7 _ rfl
        ·exact hb.c 8 _ rfl
       rw [su] at k2; rw [sie] at k3
       obtain ⟨sa, hsa⟩ : ∃ z, s.a = z := ⟨_, rfl⟩
       obtain ⟨sb, hsb⟩ : ∃ z, s.b = z := ⟨_, rfl⟩
       obtain ⟨sf, hsf⟩ : ∃ z, s.f = z := ⟨_, rfl⟩
       obtain ⟨r0a, hr0⟩ : ∃ z, s0.a = z := ⟨_, rfl⟩
       rw [hsa] at k0 k5 hle HED; rw [hsb] at k1 HED; rw [hsf] at k4 hff hany; rw [hr0] at k6 hle
       obtain ⟨wt, hwt, pt, hbt, hst⟩ := new_box wx _ rfl [.int .i64 sa, .int .i64 sb, .int .i64 (u : Int), .int .i64 (jj : Int), .bool sf] 50
       have hblt : Below wl.heap.size wl wt := hbm.trans (hbt.mono hbm.size)
       have HB6L := Lib.hid (HBH.out.trans (HBV.out.mono HBH.out.size))
       have hb6t : Below w6.heap.size w6 wt := HB6L.out.trans (hblt.mono HB6L.out.size)
       have HLU := Lib.hid (show ∀ w', Below wt.heap.size wt w' → Sem.run Tryz.prog (Instr.lookup 31 (.map (some wh.heap.size)) (.int .i64 (u : Int)) false) w' = Result.ok (Value.int .i64 0) w' from fun w' hb => by
        have := HLK.out w' (hblt.trans (hb.mono hblt.size)) (u : Int) (by have := HLEN.out; omega)
        rw [if_neg hnu] at this; exact this)
       have HLT := Lib.hid (show ∀ w', Below wt.heap.size wt w' → Sem.run Tryz.prog (Instr.lookup 31 (.map (some wh.heap.size)) (.int .i64 (t : Int)) false) w' = Result.ok (Value.int .i64 1) w' from fun w' hb => by
        have := HLK.out w' (hblt.trans (hb.mono hblt.size)) (t : Int) (by have := HLEN.out; omega)
        rw [if_pos htm] at this; exact this)
       have CC := Lib.hid (show ∀ w', Below wt.heap.size wt w' → w'.cell? ⟨wx.heap.size, 0, none⟩ = some (.int .i64 sa) ∧ w'.cell? ⟨wx.heap.size, 1, none⟩ = some (.int .i64 sb) ∧ w'.cell? ⟨wx.heap.size, 2, none⟩ = some (.int .i64 (u : Int)) ∧ w'.cell? ⟨wx.heap.size, 3, none⟩ = some (.int .i64 (jj : Int)) ∧ w'.cell? ⟨wx.heap.size, 4, none⟩ = some (.bool sf) ∧ w'.cell? ⟨wg.heap.size, 1, none⟩ = some (.slice (some ⟨rg, 0, none⟩) rn rc) ∧ w'.cell? ⟨rg, jp * 5 + 1, none⟩ = some (.int .i64 sa) ∧ w'.cell? ⟨rg, 0, none⟩ = some (.int .i64 r0a) ∧ Sem.run Tryz.prog (Instr.lookup 31 (.map (some wh.heap.size)) (.int .i64 (u : Int)) false) w' = Result.ok (Value.int .i64 0) w' from fun w' hb => by
        have hp := pt.below hb
        have hbx := hbt.trans (hb.mono hbt.size)
        exact ⟨hp.c 0 _ rfl, hp.c 1 _ rfl, hp.c 2 _ rfl, hp.c 3 _ rfl, hp.c 4 _ rfl, (PH.out.below (HBV.out.trans ((hbm.trans (hbx.mono hbm.size)).mono HBV.out.size))).c 1 _ rfl, k5 w' hbx, k6 w' hbx, HLU.out w' hb⟩)
       have hmod : (IntKind.i64.wrap (IntKind.i64.wrap ((m : Int) + (rn : Int)) - 1)).tmod (rn : Int) = (jp : Int) := by
        have e1 : IntKind.i64.wrap ((m : Int) + (rn : Int)) = (m : Int) + (rn : Int) := by rw [IntKind.wrap_i64]; omega
        have e2 : IntKind.i64.wrap ((m : Int) + (rn : Int) - 1) = (m : Int) + (rn : Int) - 1 := by rw [IntKind.wrap_i64]; omega
        rw [e1, e2, ← hjp, Int.tmod_eq_emod_of_nonneg (by omega), Int.natCast_emod]
        congr 1
        omega
       have hrn0 : ¬ rn = 0 := by omega
       have hrnp : 0 < rn := by omega
       have h0a : (sa != sa) = false := by simp
       have h0b : (sb != sb) = false := by simp
       have h0f : (sf != sf) = false := by cases sf <;> rfl
       have hla : decide (sa < r0a) = false := decide_eq_false (by omega)
       have hrz : ((rn : Int) == 0) = false := by simp; omega
       have i1 : (0 : Int) ≤ (m : Int) := by omega
       have i2 : (m : Int) < (rn : Int) := by omega
       have i3 : (0 : Int) ≤ (jp : Int) := by omega
       have i4 : (jp : Int) < (rn : Int) := by omega
       have i5 : (0 : Int) ≤ (u : Int) := by omega
       have i6 : (u : Int) < (len : Int) := by have := HLEN.out; omega
       have i7 : (0 : Int) ≤ (jj : Int) := by omega
       have i8 : (jj : Int) < 3 := by omega
       have i9 : (0 : Int) < (rn : Int) := by omega
       have HANY := Lib.hid hany; have HNN := Lib.hid hnn; have HFF := Lib.hid hff; have HU := Lib.hid hU
       have PT := Lib.hid pt; have HBLT := Lib.hid hblt; have HB6T := Lib.hid hb6t
       clear hs hr hsr hjp hjl hs0 hle htm hX hi hno hsx he hn hf hn2 hf2 su sfe hji sie sab hnu hul htl hcs hany hrc k5 k6 hqc hnn hff hU hsa hsb hsf hr0 pt hbt hst hblt hb6t hbm hcq hjj
       go_wp2
       refine wp_region_noPanic ?_
       refine wp_region_held_drew (S := fun w' => w'.cell? ⟨wx.heap.size, 0, none⟩ = some (.int .i64 sa) ∧ w'.cell? ⟨wx.heap.size, 1, none⟩ = some (.int .i64 sb) ∧ w'.cell? ⟨wx.heap.size, 2, none⟩ = some (.int .i64 (u : Int)) ∧ w'.cell? ⟨wx.heap.size, 3, none⟩ = some (.int .i64 (jj : Int)) ∧ w'.cell? ⟨wx.heap.size, 4, none⟩ = some (.bool sf) ∧ w'.cell? ⟨wg.heap.size, 1, none⟩ = some (.slice (some ⟨rg, 0, none⟩) rn rc) ∧ w'.cell? ⟨rg, jp * 5 + 1, none⟩ = some (.int .i64 sa) ∧ w'.cell? ⟨rg, 0, none⟩ = some (.int .i64 r0a) ∧ Sem.run Tryz.prog (Instr.lookup 31 (.map (some wh.heap.size)) (.int .i64 (u : Int)) false) w' = Result.ok (Value.int .i64 0) w') (by kernel_rfl) (CC.out _ (Below.refl _ _).drew') (fun hHeld => ?_)
       refine rU 0 _ _ ?_
       (try simp only [Act.put]);try simp only [sA,sZ,sS]
       refine rU 1 _ _ ?_
       (try simp only [Act.put]);try simp only [sA,sZ,sS]
       refine rU 2 _ _ ?_
       (try simp only [Act.put]);try simp only [sA,sZ,sS]
       refine rU 3 _ _ ?_
       (try simp only [Act.put]);try simp only [sA,sZ,sS]
       refine rU 4 _ _ ?_
       (try simp only [Act.put]);try simp only [sA,sZ,sS]
       refine rU 5 _ _ ?_
       (try simp only [Act.put]);try simp only [sA,sZ,sS]
       refine rU 6 _ _ ?_
       (try simp only [Act.put]);try simp only [sA,sZ,sS]
       refine rU 7 _ _ ?_
       (try simp only [Act.put]);try simp only [sA,sZ,sS]
       refine rU 8 _ _ ?_
       (try simp only [Act.put]);try simp only [sA,sZ,sS]
       refine rU 9 _ _ ?_
       (try simp only [Act.put]);try simp only [sA,sZ,sS]
       refine rU 10 _ _ ?_
       (try simp only [Act.put]);try simp only [sA,sZ,sS]
       refine rU 11 _ _ ?_
       (try simp only [Act.put]);try simp only [sA,sZ,sS]
       refine rU 12 _ _ ?_
       (try simp only [Act.put]);try simp only [sA,sZ,sS]
       refine rU 13 _ _ ?_
       (try simp only [Act.put]);try simp only [sA,sZ,sS]
       refine rU 14 _ _ ?_
       (try simp only [Act.put]);try simp only [sA,sZ,sS]
       refine rU 15 _ _ ?_
       (try simp only [Act.put]);try simp only [sA,sZ,sS]
       refine rU 16 _ _ ?_
       (try simp only [Act.put]);try simp only [sA,sZ,sS]
       refine rU 17 _ _ ?_
       (try simp only [Act.put]);try simp only [sA,sZ,sS]
       refine rU 18 _ _ ?_
       (try simp only [Act.put]);try simp only [sA,sZ,sS]
       refine rU 19 _ _ ?_
       (try simp only [Act.put]);try simp only [sA,sZ,sS]
       refine rU 20 _ _ ?_
       (try simp only [Act.put]);try simp only [sA,sZ,sS]
       refine rU 21 _ _ ?_
       (try simp only [Act.put]);try simp only [sA,sZ,sS]
       refine rU 22 _ _ ?_
       (try simp only [Act.put]);try simp only [sA,sZ,sS]
       refine rU 23 _ _ ?_
       (try simp only [Act.put]);try simp only [sA,sZ,sS]
       refine rU 24 _ _ ?_
       (try simp only [Act.put]);try simp only [sA,sZ,sS]
       refine rU 25 _ _ ?_
       (try simp only [Act.put]);try simp only [sA,sZ,sS]
       refine rU 26 _ _ ?_
       (try simp only [Act.put]);try simp only [sA,sZ,sS]
       refine rU 27 _ _ ?_
       (try simp only [Act.put]);try simp only [sA,sZ,sS]
       refine rU 28 _ _ ?_
       (try simp only [Act.put]);try simp only [sA,sZ,sS]
       refine rU 29 _ _ ?_
       (try simp only [Act.put]);try simp only [sA,sZ,sS]
       refine rU 30 _ _ ?_
       (try simp only [Act.put]);try simp only [sA,sZ,sS]
       refine rU 31 _ _ ?_
       (try simp only [Act.put]);try simp only [sA,sZ,sS]
       refine rU 32 _ _ ?_
       (try simp only [Act.put]);try simp only [sA,sZ,sS]
       refine rU 33 _ _ ?_
       (try simp only [Act.put]);try simp only [sA,sZ,sS]
       refine rU 34 _ _ ?_
       (try simp only [Act.put]);try simp only [sA,sZ,sS]
       refine wpAnyH_done (by kernel_rfl) ?_ _
       refine NoPanic.normal ?_
       clear k0 k1 k2 k3 k4
       go_wp2_with fail
       obtain ⟨wd, hwd⟩ : ∃ wd, wt.drew.drew = wd := ⟨_, rfl⟩
       have hBd : Below wt.heap.size wt wd := by rw [← hwd]; exact (Below.refl _ _).drew'.drew'
       have hsd : wt.heap.size ≤ wd.heap.size := by rw [← hwd]; exact Nat.le_refl _
       obtain ⟨we, hwe, pz, hbe, hse⟩ := new_box wd _ rfl [.int .i64 0, .int .i64 0, .int .i64 0, .int .i64 0, .int .i64 0, .int .i64 0, .bool false, .bool false, .bool false] 37
       obtain ⟨wf, hwf⟩ : ∃ wf, setAll we wd.heap.size 0 [.int .i64 U.v0, .int .i64 U.v1, .int .i64 U.v2, .int .i64 U.n0, .int .i64 U.n1, .int .i64 U.n2, .bool U.f0, .bool U.f1, .bool U.f2] = wf := ⟨_, rfl⟩
       have pf : Box wf wd.heap.size [.int .i64 U.v0, .int .i64 U.v1, .int .i64 U.v2, .int .i64 U.n0, .int .i64 U.n1, .int .i64 U.n2, .bool U.f0, .bool U.f1, .bool U.f2] := by rw [← hwf]; exact pz.setAll _ rfl
       have hBe : Below wt.heap.size wt we := hBd.trans (hbe.mono hsd)
       have hBf : Below wt.heap.size wt wf := by rw [← hwf]; exact below_setAll hBe hsd _
       have SB := Lib.hid (show ∀ w', Below wt.heap.size wt w' → w'.cell? ⟨mb, 1, none⟩ = some (.slice (some ⟨tb, 0, none⟩) len tc) ∧ w'.cell? ⟨wx.heap.size, 2, none⟩ = some (.int .i64 (u : Int)) ∧ w'.cell? ⟨tb, u * 9, none⟩ = some (.int .i64 U.v0) ∧ w'.cell? ⟨tb, u * 9 + 1, none⟩ = some (.int .i64 U.v1) ∧ w'.cell? ⟨tb, u * 9 + 2, none⟩ = some (.int .i64 U.v2) ∧ w'.cell? ⟨tb, u * 9 + 3, none⟩ = some (.int .i64 U.n0) ∧ w'.cell? ⟨tb, u * 9 + 4, none⟩ = some (.int .i64 U.n1) ∧ w'.cell? ⟨tb, u * 9 + 5, none⟩ = some (.int .i64 U.n2) ∧ w'.cell? ⟨tb, u * 9 + 6, none⟩ = some (.bool U.f0) ∧ w'.cell? ⟨tb, u * 9 + 7, none⟩ = some (.bool U.f1) ∧ w'.cell? ⟨tb, u * 9 + 8, none⟩ = some (.bool U.f2) from fun w' hb => by
        have h6 := HB6T.out.trans (hb.mono HB6T.out.size)
        have q1 := R6.out.below h6
        have k1 := q1.box.c1
        rw [HLEN.out] at k1
        obtain ⟨tb', hta, -, h9⟩ := q1.tris.get HU.out
        cases hta
        exact ⟨k1, (PT.out.below hb).c 2 _ rfl, h9.c0, h9.c1, h9.c2, h9.c3, h9.c4, h9.c5, h9.c6, h9.c7, h9.c8⟩)
       have PF := Lib.hid pf; have HBF := Lib.hid hBf
       clear hse pf hsd
       refine wp_region_noPanic ?_
       refine wp_region_held_drew (S := fun w' => w'.cell? ⟨mb, 1, none⟩ = some (.slice (some ⟨tb, 0, none⟩) len tc) ∧ w'.cell? ⟨wx.heap.size, 2, none⟩ = some (.int .i64 (u : Int)) ∧ w'.cell? ⟨tb, u * 9, none⟩ = some (.int .i64 U.v0) ∧ w'.cell? ⟨tb, u * 9 + 1, none⟩ = some (.int .i64 U.v1) ∧ w'.cell? ⟨tb, u * 9 + 2, none⟩ = some (.int .i64 U.v2) ∧ w'.cell? ⟨tb, u * 9 + 3, none⟩ = some (.int .i64 U.n0) ∧ w'.cell? ⟨tb, u * 9 + 4, none⟩ = some (.int .i64 U.n1) ∧ w'.cell? ⟨tb, u * 9 + 5, none⟩ = some (.int .i64 U.n2) ∧ w'.cell? ⟨tb, u * 9 + 6, none⟩ = some (.bool U.f0) ∧ w'.cell? ⟨tb, u * 9 + 7, none⟩ = some (.bool U.f1) ∧ w'.cell? ⟨tb, u * 9 + 8, none⟩ = some (.bool U.f2)) (by kernel_rfl) (SB.out _ (Below.refl _ _).drew'.drew') (fun hHeld => ?_)
       rw [hwd] at hHeld ⊢
       refine rU 0 _ _ ?_
       (try simp only [Act.put]);try simp only [sA,sZ,sS]
       refine rU 1 _ _ ?_
       (try simp only [Act.put]);try simp only [sA,sZ,sS]
       refine rU 2 _ _ ?_
       (try simp only [Act.put]);try simp only [sA,sZ,sS]
       refine rU 3 _ _ ?_
       (try simp only [Act.put]);try simp only [sA,sZ,sS]
       refine rU 4 _ _ ?_
       (try simp only [Act.put]);try simp only [sA,sZ,sS]
       refine rU 5 _ _ ?_
       (try simp only [Act.put]);try simp only [sA,sZ,sS]
       refine rU 6 _ _ ?_
       (try simp only [Act.put]);try simp only [sA,sZ,sS]
       refine rU 7 _ _ ?_
       (try simp only [Act.put]);try simp only [sA,sZ,sS]
       refine reg_call 8 ?_ (by kernel_rfl) ?_ (fun K hK => ?_);rotate_left 1
       ·simp only [gA,gS,gZ]; exact rfl
       go_simp
       try rw [hwe]
       refine hK.out _ _ (SB.out _ hBe) (fun hHeld => ?_)
       clear hK K
       (try simp only [Act.put]);try simp only [sA,sZ,sS]
       refine reg_call 9 ?_ (by kernel_rfl) ?_ (fun K hK => ?_);rotate_left 1
       ·simp only [gA,gS,gZ]; exact rfl
       refine wanted_go rfl ?_
       refine wp_store_box _ _ _ rfl [.int .i64 U.v0, .int .i64 U.v1, .int .i64 U.v2, .int .i64 U.n0, .int .i64 U.n1, .int .i64 U.n2, .bool U.f0, .bool U.f1, .bool U.f2] pz rfl rfl (by kernel_rfl) (by simp) rfl hwf ?_
       refine hK.out _ _ (SB.out _ hBf) (fun hHeld => ?_)
       clear hK K
       (try simp only [Act.put]);try simp only [sA,sZ,sS]
       refine wpAnyH_done (by kernel_rfl) ?_ _
       refine NoPanic.normal ?_
       have d0 := PF.out.c 0 _ rfl; have d1 := PF.out.c 1 _ rfl; have d2 := PF.out.c 2 _ rfl; have d3 := PF.out.c 3 _ rfl; have d4 := PF.out.c 4 _ rfl; have d5 := PF.out.c 5 _ rfl; have d6 := PF.out.c 6 _ rfl; have d7 := PF.out.c 7 _ rfl; have d8 := PF.out.c 8 _ rfl
       have d9 := (PT.out.below HBF.out).c 3 _ rfl
       clear hwe pz hbe hwf hBe hBf hBd hwd SB
       go_wp2_with fail
       have HED2 := Lib.hid (show Calls Tryz.prog 14 #[.agg #[.int .i64 U.v0, .int .i64 U.v1, .int .i64 U.v2, .int .i64 U.n0, .int .i64 U.n1, .int .i64 U.n2, .bool U.f0, .bool U.f1, .bool U.f2], .int .i64 (jj : Int)] wf fun e w' => e = .returned (.tuple #[.int .i64 sb, .int .i64 sa]) ∧ Below wf.heap.size wf w' from HED.out wf)
       clear d0 d1 d2 d3 d4 d5 d6 d7 d8 d9
       refine HED2.out.mono ?_
       rintro e wk ⟨rfl, hbk⟩
       have hbfk : Below wt.heap.size wt wk := HBF.out.trans (hbk.mono HBF.out.size)
       have C2 := Lib.hid (show ∀ w', Below wk.heap.size wk w' → w'.cell? ⟨wx.heap.size, 0, none⟩ = some (.int .i64 sa) ∧ w'.cell? ⟨wx.heap.size, 1, none⟩ = some (.int .i64 sb) ∧ w'.cell? ⟨wx.heap.size, 2, none⟩ = some (.int .i64 (u : Int)) ∧ w'.cell? ⟨wx.heap.size, 3, none⟩ = some (.int .i64 (jj : Int)) ∧ w'.cell? ⟨wx.heap.size, 4, none⟩ = some (.bool sf) ∧ w'.cell? ⟨wd.heap.size, 3 + jj, none⟩ = some (.int .i64 (t : Int)) ∧ w'.cell? ⟨wd.heap.size, 6 + jj, none⟩ = some (.bool sf) ∧ Sem.run Tryz.prog (Instr.lookup 31 (.map (some wh.heap.size)) (.int .i64 (t : Int)) false) w' = Result.ok (Value.int .i64 1) w' from fun w' hb => by
        have hx := hbfk.trans (hb.mono hbfk.size)
        have hp := PT.out.below hx
        have hu := PF.out.below (hbk.trans (hb.mono hbk.size))
        exact ⟨hp.c 0 _ rfl, hp.c 1 _ rfl, hp.c 2 _ rfl, hp.c 3 _ rfl, hp.c 4 _ rfl, HNN.out _ _ hu, HFF.out _ _ hu, HLT.out w' hx⟩)
       have HLK2 := Lib.hid (HBLT.out.trans (hbfk.mono HBLT.out.size))
       have HB6K := Lib.hid (HB6T.out.trans (hbfk.mono HB6T.out.size))
       have e6 := (PT.out.below hbfk).c 2 _ rfl; have e7 := (PT.out.below hbfk).c 4 _ rfl
       have e8 := (P6.out.below HB6K.out).c 0 _ rfl; have e9 := (P6.out.below HB6K.out).c 1 _ rfl
       clear hbfk hbk HED2
       go_wp2_with fail
       refine wp_region_noPanic ?_
       refine wp_region_held_drew (S := fun w' => w'.cell? ⟨wx.heap.size, 0, none⟩ = some (.int .i64 sa) ∧ w'.cell? ⟨wx.heap.size, 1, none⟩ = some (.int .i64 sb) ∧ w'.cell? ⟨wx.heap.size, 2, none⟩ = some (.int .i64 (u : Int)) ∧ w'.cell? ⟨wx.heap.size, 3, none⟩ = some (.int .i64 (jj : Int)) ∧ w'.cell? ⟨wx.heap.size, 4, none⟩ = some (.bool sf) ∧ w'.cell? ⟨wd.heap.size, 3 + jj, none⟩ = some (.int .i64 (t : Int)) ∧ w'.cell? ⟨wd.heap.size, 6 + jj, none⟩ = some (.bool sf) ∧ Sem.run Tryz.prog (Instr.lookup 31 (.map (some wh.heap.size)) (.int .i64 (t : Int)) false) w' = Result.ok (Value.int .i64 1) w') (by kernel_rfl) (C2.out _ (Below.refl _ _).drew') (fun hHeld => ?_)
       refine rU 0 _ _ ?_
       (try simp only [Act.put]);try simp only [sA,sZ,sS]
       refine rU 1 _ _ ?_
       (try simp only [Act.put]);try simp only [sA,sZ,sS]
       refine rU 2 _ _ ?_
       (try simp only [Act.put]);try simp only [sA,sZ,sS]
       refine rU 3 _ _ ?_
       (try simp only [Act.put]);try simp only [sA,sZ,sS]
       refine rU 4 _ _ ?_
       (try simp only [Act.put]);try simp only [sA,sZ,sS]
       refine rU 5 _ _ ?_
       (try simp only [Act.put]);try simp only [sA,sZ,sS]
       refine rU 6 _ _ ?_
       (try simp only [Act.put]);try simp only [sA,sZ,sS]
       refine rU 7 _ _ ?_
       (try simp only [Act.put]);try simp only [sA,sZ,sS]
       refine rU 8 _ _ ?_
       (try simp only [Act.put]);try simp only [sA,sZ,sS]
       refine rU 9 _ _ ?_
       (try simp only [Act.put]);try simp only [sA,sZ,sS]
       refine rU 10 _ _ ?_
       (try simp only [Act.put]);try simp only [sA,sZ,sS]
       refine rU 11 _ _ ?_
       (try simp only [Act.put]);try simp only [sA,sZ,sS]
       refine rU 12 _ _ ?_
       (try simp only [Act.put]);try simp only [sA,sZ,sS]
       refine rU 13 _ _ ?_
       (try simp only [Act.put]);try simp only [sA,sZ,sS]
       refine rU 14 _ _ ?_
       (try simp only [Act.put]);try simp only [sA,sZ,sS]
       refine rU 15 _ _ ?_
       (try simp only [Act.put]);try simp only [sA,sZ,sS]
       refine rU 16 _ _ ?_
       (try simp only [Act.put]);try simp only [sA,sZ,sS]
       refine rU 17 _ _ ?_
       (try simp only [Act.put]);try simp only [sA,sZ,sS]
       refine rU 18 _ _ ?_
       (try simp only [Act.put]);try simp only [sA,sZ,sS]
       refine rU 19 _ _ ?_
       (try simp only [Act.put]);try simp only [sA,sZ,sS]
       refine rU 20 _ _ ?_
       (try simp only [Act.put]);try simp only [sA,sZ,sS]
       refine rU 21 _ _ ?_
       (try simp only [Act.put]);try simp only [sA,sZ,sS]
       refine rU 22 _ _ ?_
       (try simp only [Act.put]);try simp only [sA,sZ,sS]
       refine rU 23 _ _ ?_
       (try simp only [Act.put]);try simp only [sA,sZ,sS]
       refine rU 24 _ _ ?_
       (try simp only [Act.put]);try simp only [sA,sZ,sS]
       refine rU 25 _ _ ?_
       (try simp only [Act.put]);try simp only [sA,sZ,sS]
       refine rU 26 _ _ ?_
       (try simp only [Act.put]);try simp only [sA,sZ,sS]
       refine rU 27 _ _ ?_
       (try simp only [Act.put]);try simp only [sA,sZ,sS]
       refine rU 28 _ _ ?_
       (try simp only [Act.put]);try simp only [sA,sZ,sS]
       refine rU 29 _ _ ?_
       (try simp only [Act.put]);try simp only [sA,sZ,sS]
       refine wpAnyH_done (by kernel_rfl) ?_ _
       refine NoPanic.normal ?_
       clear C2
       cases cq
       ·cases sf
        ·go_wp2
         go_roundw
         case rel => exact ⟨m + 1, by omega, by simp [HANY.out], by go_num, HLK2.out.drew'⟩
         case measure => simp [intOf]; omega
        ·go_wp2_with fail
         refine (HLC.out _ HB6K.out.drew').mono ?_
         rintro e wm ⟨rfl, hbm2⟩
         have HLM := Lib.hid (HLK2.out.drew'.trans (hbm2.mono HLK2.out.drew'.size))
         clear hbm2
         go_wp2
         go_roundw
         case rel => exact ⟨m + 1, by omega, by simp [HANY.out], by go_num, HLM.out⟩
         case measure => simp [intOf]; omega
       ·go_wp2
        go_roundw
        case rel => exact ⟨m + 1, by omega, by simp [HANY.out], by go_num, HLK2.out.drew'⟩
        case measure => simp [intOf]; omega
      ·obtain rfl : m = rn := by omega
       have e4 : decide ((m : Int) < (m : Int)) = false := decide_eq_false (by omega)
       rw [List.take_of_length_le (by rw [HRN.out]; exact Nat.le_refl _), HQ.out] at hcq
       subst hcq
       have hqq : (q == q) = true := by simp
       have hmm : ((m : Int) == (m : Int)) = true := by simp
       have x1 := (PH.out.below (HBV.out.trans (hbm.mono HBV.out.size))).c 1 _ rfl
       have x2 := (PH.out.below (HBV.out.trans (hbm.mono HBV.out.size))).c 2 _ rfl
       have FIN := Lib.hid (B06.out.trans ((HBH.out.trans ((HBV.out.trans (hbm.mono HBV.out.size)).mono HBH.out.size)).mono B06.out.size))
       clear hbm
       go_wp2
       go_ret
       exact ⟨rfl, FIN.out⟩
end Go.Proofs.YtnabdopnlinklaaGreat
