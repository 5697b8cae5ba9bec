/- Where a walk ends: at a triangle that holds the point, at a ghost that has it beyond, or by looking at all. Pure. -/
import Derived.Test.YtnabdopnlinklaaGreatPartm
import Derived.Test.YtnabdopnlinklaaGreatPartp
import Derived.RangeFuncNested
import Derived.RangeFuncBound
import Derived.RangeFuncCalls
import Derived.RangeFuncLeaves
import Derived.Test.YtnabdopnlinklaaGreatPartg
import Derived.WalkMore
import Derived.Test.YtnabdopnlinklaaGreatPartq
import Derived.Test.YtnabdopnlinklaaGreatParth
import Derived.StillTail
import Derived.Test.YtnabdopnlinklaaGreatPartk
namespace Go.MagM
open Go.RowKit
/-- Where a triangle's corner lies. -/
def ptT (P : List (Int × Int)) (T : TriM) (k : Nat) : Int × Int := ptA P (T.v k).toNat
theorem sideT_is (P : List (Int × Int)) (T : TriM) (i : Nat) (p : Int × Int) : sideT P T i p = (crP (ptT P T ((i + 1) % 3)) (ptT P T ((i + 2) % 3)) p).sign := rfl
theorem sign_lt {x : Int} : x.sign < 0 ↔ x < 0 := by
 rcases Int.lt_trichotomy x 0 with h | h | h
 ·rw [Int.sign_eq_neg_one_of_neg h]; omega
 ·subst h; simp
 ·rw [Int.sign_eq_one_of_pos h]; omega
theorem sign_gt {x : Int} : 0 < x.sign ↔ 0 < x := by
 rcases Int.lt_trichotomy x 0 with h | h | h
 ·rw [Int.sign_eq_neg_one_of_neg h]; omega
 ·subst h; simp
 ·rw [Int.sign_eq_one_of_pos h]; omega
theorem sign_ge {x : Int} : 0 ≤ x.sign ↔ 0 ≤ x := by
 have := @sign_lt x
 omega
theorem sign_zero {x : Int} : x.sign = 0 ↔ x = 0 := by
 have h1 := @sign_lt x; have h2 := @sign_gt x
 omega
theorem holdsT_iff {P : List (Int × Int)} {T : TriM} {p : Int × Int} : holdsT P T p = true ↔ ∀ i, i < 3 → 0 ≤ crP (ptT P T ((i + 1) % 3)) (ptT P T ((i + 2) % 3)) p := by
 constructor
 ·intro h i hi
  unfold holdsT at h
  simp only [Bool.and_eq_true, decide_eq_true_eq] at h
  obtain ⟨⟨h0, h1⟩, h2⟩ := h
  rw [← sign_ge, ← sideT_is]
  obtain rfl | rfl | rfl : i = 0 ∨ i = 1 ∨ i = 2 := by omega
  ·exact h0
  ·exact h1
  ·exact h2
 ·intro h
  exact holdsT_all fun j hj => by rw [sideT_is, sign_ge]; exact h j hj
/-- Across each edge of a real triangle lies one that has it the other way round. -/
def Across (S : List TriM) : Prop := ∀ (t : Nat) (T : TriM) (i : Nat), S[t]? = some T → realT T = true → i < 3 → ∃ (u j : Nat) (U : TriM), S[u]? = some U ∧ j < 3 ∧ T.n i = (u : Int) ∧ U.v ((j + 1) % 3) = T.v ((i + 2) % 3) ∧ U.v ((j + 2) % 3) = T.v ((i + 1) % 3)
end Go.MagM
/- cavity's readers: ends, edge, corners. Written by tools/cav1.py. -/
namespace Go.MagM
open Go.RowKit
theorem box9v {w : World} {g : Nat} {T : TriM} (h : Box w g T.cells) {k : Nat} (hk : k < 3) : w.cell? ⟨g, k, none⟩ = some (.int .i64 (T.v k)) := by
 obtain rfl | rfl | rfl : k = 0 ∨ k = 1 ∨ k = 2 := by omega
 ·exact h.c 0 _ rfl
 ·exact h.c 1 _ rfl
 ·exact h.c 2 _ rfl
theorem edgeV_is (T : TriM) {i : Nat} (hi : i < 3) : edgeV T i = (T.v ((i + 1) % 3), T.v ((i + 2) % 3)) := by
 obtain rfl | rfl | rfl : i = 0 ∨ i = 1 ∨ i = 2 := by omega
 all_goals rfl
/-- A triangle's corner that is a point of the mesh. -/
def corK (P : List (Int × Int)) (T : TriM) (k : Nat) : List (Int × Int) := if 0 ≤ T.v k ∧ T.v k < (P.length : Int) then [ptT P T k] else []
/-- Where one begins: behind Ghost, if there is one. -/
def corF (T : TriM) : Nat := (placeT T (-1) + 1).toNat
def corsN (P : List (Int × Int)) (T : TriM) : Nat → List (Int × Int)
 | 0 => []
 | n + 1 => corsN P T n ++ corK P T ((corF T + n) % 3)
def cors (P : List (Int × Int)) (T : TriM) : List (Int × Int) := corsN P T 3
theorem corK_le (P : List (Int × Int)) (T : TriM) (k : Nat) : (corK P T k).length ≤ 1 := by unfold corK; split <;> simp
theorem corsN_le (P : List (Int × Int)) (T : TriM) : ∀ n, (corsN P T n).length ≤ n
 | 0 => Nat.le_refl _
 | n + 1 => by have := corsN_le P T n; have := corK_le P T ((corF T + n) % 3); rw [corsN, List.length_append]; omega
theorem corF_lt (T : TriM) : corF T ≤ 3 := by
 unfold corF
 rcases placeT_cases T (-1) with e | e | e | e <;> rw [e] <;> decide
end Go.MagM
namespace Go.Proofs.YtnabdopnlinklaaGreat
open Go.RowKit Go.MagM
set_option maxRecDepth 100000 in
set_option maxHeartbeats 4000000 in
theorem cvEnds_any (T : TriM) (i : Nat) (hi : i < 3) (w : World) : Calls Tryz.prog 148 #[triV T, .int .i64 (i : Int)] w fun e w' => e = .returned (.tuple #[.int .i64 (edgeV T i).1, .int .i64 (edgeV T i).2]) ∧ Below w.heap.size w w' := by
 rw [edgeV_is T hi]
 obtain ⟨v0, v1, v2, n0, n1, n2, f0, f1, f2⟩ := T
 unfold triV
 simp only []
 obtain ⟨w1, hw1, hp, hb1, hs1⟩ := new_box w _ rfl [.int .i64 v0, .int .i64 v1, .int .i64 v2, .int .i64 n0, .int .i64 n1, .int .i64 n2, .bool f0, .bool f1, .bool f2] 37
 have m1 := mod3_one hi
 have m2 := mod3_two hi
 obtain ⟨k1, hk1⟩ : ∃ k1, (i + 1) % 3 = k1 := ⟨_, rfl⟩
 obtain ⟨k2, hk2⟩ : ∃ k2, (i + 2) % 3 = k2 := ⟨_, rfl⟩
 rw [hk1] at m1; rw [hk2] at m2
 have hk13 : k1 < 3 := by omega
 have hk23 : k2 < 3 := by omega
 rw [hk1, hk2]
 obtain ⟨x1, hx1⟩ : ∃ x, (⟨v0, v1, v2, n0, n1, n2, f0, f1, f2⟩ : TriM).v k1 = x := ⟨_, rfl⟩
 obtain ⟨x2, hx2⟩ : ∃ x, (⟨v0, v1, v2, n0, n1, n2, f0, f1, f2⟩ : TriM).v k2 = x := ⟨_, rfl⟩
 have y1 := box9v (T := ⟨v0, v1, v2, n0, n1, n2, f0, f1, f2⟩) hp hk13
 have y2 := box9v (T := ⟨v0, v1, v2, n0, n1, n2, f0, f1, f2⟩) hp hk23
 rw [hx1] at y1; rw [hx2] at y2
 rw [hx1, hx2]
 have HB1 := Lib.hid hb1
 have i7 : (0 : Int) ≤ (k1 : Int) := by omega
 have i8 : (k1 : Int) < 3 := by omega
 have i9 : (0 : Int) ≤ (k2 : Int) := by omega
 have i10 : (k2 : Int) < 3 := by omega
 clear hp hb1 hs1 hk1 hk2 hx1 hx2
 go_enter Tryz.func148, Tryz.ntmps148
 go_wp2
 refine wp_region_noPanic ?_
 refine wp_region_held_drew (S := fun w' => w'.cell? ⟨w.heap.size, k1, none⟩ = some (.int .i64 x1) ∧ w'.cell? ⟨w.heap.size, k2, none⟩ = some (.int .i64 x2)) (by kernel_rfl) (⟨y1, y2⟩) (fun hHeld => ?_)
 refine rU 0 _ _ ?_
 (try simp only [Act.put]);try simp only [sA,sZ,sS]
 refine rU 1 _ _ ?_
 (try simp only [Act.put]);try simp only [sA,sZ,sS]
 refine rU 2 _ _ ?_
 (try simp only [Act.put]);try simp only [sA,sZ,sS]
 refine rU 3 _ _ ?_
 (try simp only [Act.put]);try simp only [sA,sZ,sS]
 refine rU 4 _ _ ?_
 (try simp only [Act.put]);try simp only [sA,sZ,sS]
 refine rU 5 _ _ ?_
 (try simp only [Act.put]);try simp only [sA,sZ,sS]
 refine rU 6 _ _ ?_
 (try simp only [Act.put]);try simp only [sA,sZ,sS]
 refine rU 7 _ _ ?_
 (try simp only [Act.put]);try simp only [sA,sZ,sS]
 refine rU 8 _ _ ?_
 (try simp only [Act.put]);try simp only [sA,sZ,sS]
 refine rU 9 _ _ ?_
 (try simp only [Act.put]);try simp only [sA,sZ,sS]
 refine rU 10 _ _ ?_
 (try simp only [Act.put]);try simp only [sA,sZ,sS]
 refine rU 11 _ _ ?_
 (try simp only [Act.put]);try simp only [sA,sZ,sS]
 refine rU 12 _ _ ?_
 (try simp only [Act.put]);try simp only [sA,sZ,sS]
 refine rU 13 _ _ ?_
 (try simp only [Act.put]);try simp only [sA,sZ,sS]
 refine wpAnyH_done (by kernel_rfl) ?_ _
 refine NoPanic.normal ?_
 go_wp2
 go_ret2
 exact ⟨rfl, HB1.out.drew'⟩
set_option maxRecDepth 100000 in
set_option maxHeartbeats 8000000 in
theorem cvEdge_any {mb pb pc : Nat} {ta : Option Addr} {tc : Nat} {P : List (Int × Int)} {S : List TriM} (t : Nat) (T : TriM) (a b : Int) (w : World) (h : MeshR w mb pb pc ta tc P S) (hT : S[t]? = some T) :
  Calls Tryz.prog 147 #[.pointer (some ⟨mb, 0, none⟩), .int .i64 (t : Int), .int .i64 a, .int .i64 b] w fun e w' => e = .returned (.int .i64 (edgeT T a b)) ∧ Below w.heap.size w w' := by
 have hsh := h.short.2
 have hlt := (List.getElem?_eq_some_iff.1 hT).1
 obtain ⟨len, hlen⟩ : ∃ len, S.length = len := ⟨_, rfl⟩
 have q1 : decide ((t : Int) < 0) = false := decide_eq_false (by omega)
 have q2 : decide ((len : Int) ≤ (t : Int)) = false := decide_eq_false (by omega)
 have q3 : decide (len ≤ t) = false := decide_eq_false (by omega)
 have i1 : (0 : Int) ≤ (t : Int) := by omega
 have i2 : (t : Int) < (len : Int) := by omega
 have b1 := h.box.c1
 rw [hlen] at b1 hsh hlt
 obtain ⟨r, hr⟩ : ∃ r, edgeT T a b = r := ⟨_, rfl⟩
 rw [hr]
 have H := Lib.hid h; have HT := Lib.hid hT; have HLEN := Lib.hid hlen; have HR := Lib.hid hr
 clear h hT hlen hr
 go_enter Tryz.func147, Tryz.ntmps147
 go_wp2
 clear b1
 go_loopw [23] (fun iv wr => ∃ i : Nat, i ≤ 3 ∧ iv = .int .i64 (i : Int) ∧ (∀ j : Nat, j < i → edgeV T j ≠ (a, b)) ∧ Below w.heap.size w wr) (fun iv _ => 3 - (intOf iv).toNat)
 case atStart => exact ⟨0, by omega, rfl, fun j hj => by omega, Below.refl _ _⟩
 case round =>
  obtain ⟨i, hi, rfl, hne, hbw⟩ := hrel
  have HNE := Lib.hid hne; clear hne
  by_cases hlt3 : i < 3
  ·have hr_0 := H.out.below hbw
   obtain ⟨tb, hta, -, h9⟩ := hr_0.tris.get HT.out
   subst hta
   have b1 := hr_0.box.c1
   rw [HLEN.out] at b1
   obtain ⟨c0, c1, c2, c3, c4, c5, c6, c7, c8⟩ := h9
   have HEN := Lib.hid (fun W => cvEnds_any T i hlt3 W)
   obtain ⟨x, y, hxy⟩ : ∃ x y, edgeV T i = (x, y) := ⟨_, _, rfl⟩
   have HEN2 := Lib.hid (show ∀ W : World, Calls Tryz.prog 148 #[triV T, .int .i64 (i : Int)] W fun e w' => e = .returned (.tuple #[.int .i64 x, .int .i64 y]) ∧ Below W.heap.size W w' from fun W => by have h := HEN.out W; rw [hxy] at h; exact h)
   have HXY := Lib.hid hxy; have HBW := Lib.hid hbw
   obtain ⟨v0, v1, v2, n0, n1, n2, f0, f1, f2⟩ := T
   simp only [] at c0 c1 c2 c3 c4 c5 c6 c7 c8
   unfold triV at HEN2
   simp only [] at HEN2
   clear hr_0 hxy hbw HEN
   go_wp2_with fail
   refine (HEN2.out _).mono ?_
   rintro e w2 ⟨rfl, hb2⟩
   have HB2 := Lib.hid (HBW.out.trans (hb2.mono HBW.out.size))
   clear hb2 c0 c1 c2 c3 c4 c5 c6 c7 c8 b1
   by_cases hxa : x = a
   ·by_cases hyb : y = b
    ·subst hxa; subst hyb
     have p1 : (x == x) = true := by simp
     have p2 : (y == y) = true := by simp
     go_wp2
     go_ret
     exact ⟨by rw [← HR.out, edgeT_hit hlt3 HXY.out HNE.out]; rfl, HB2.out⟩
    ·have p1 : (x == a) = true := by simpa using hxa
     have p2 : (y == b) = false := by simpa using hyb
     have HYB := Lib.hid hyb
     clear hxa hyb
     go_wp2
     go_roundw
     case rel =>
      refine ⟨i + 1, by omega, by go_num, fun j hj => ?_, HB2.out⟩
      rcases Nat.lt_or_ge j i with g | g
      ·exact HNE.out j g
      ·obtain rfl : j = i := by omega
       rw [HXY.out]; intro e; cases e; exact HYB.out rfl
     case measure => simp [intOf]; omega
   ·have p1 : (x == a) = false := by simpa using hxa
    have HXA := Lib.hid hxa
    clear hxa
    go_wp2
    go_roundw
    case rel =>
     refine ⟨i + 1, by omega, by go_num, fun j hj => ?_, HB2.out⟩
     rcases Nat.lt_or_ge j i with g | g
     ·exact HNE.out j g
     ·obtain rfl : j = i := by omega
      rw [HXY.out]; intro e; cases e; exact HXA.out rfl
    case measure => simp [intOf]; omega
  ·obtain rfl : i = 3 := by omega
   have HB2 := Lib.hid hbw
   clear hbw
   go_wp2
   go_ret
   exact ⟨by rw [← HR.out, edgeT_miss HNE.out]; rfl, HB2.out⟩
end Go.Proofs.YtnabdopnlinklaaGreat
/- What the statements' Build leaves is sound, in whatever order the ghosts come. Pure. -/
namespace Go.MagM
/-- The edge of the border ahead. -/
def prevB (B : List (Nat × Nat)) (e : Nat × Nat) : Nat × Nat := (B.find? fun p => p.2 == e.1).getD (0, 0)
/-- Round the border, to the right, till the first edge comes again. -/
def cycB (B : List (Nat × Nat)) (first : Nat × Nat) : Nat → Nat × Nat → List (Nat × Nat)
 | 0, _ => []
 | n + 1, e => e :: (if prevB B e = first then [] else cycB B first n (prevB B e))
/-- The border's points, to the left. -/
def rimB (B : List (Nat × Nat)) (n : Nat) (e : Nat × Nat) : List Nat := ((cycB B e n e).map (·.2)).reverse
section
variable {fa : Int → Int → Bool} {T : List (Nat × Nat × Nat)} {Bd : List (Nat × Nat)} {S : List TriM}
theorem Built.mem (h : Built fa T Bd S) {e : Nat × Nat} : e ∈ Bd ↔ e ∈ borderT T := h.perm.mem_iff
theorem Built.nodup (h : Built fa T Bd S) : Bd.Nodup := by
 have h1 : (Bd.map (·.1)).Nodup := ((h.perm.map _).nodup_iff).2 h.good.out
 exact nodup_of_map h1
theorem prevB_is (g : Good T) {e : Nat × Nat} (he : e ∈ borderT T) : prevB (borderT T) e ∈ borderT T ∧ (prevB (borderT T) e).2 = e.1 := by
 obtain ⟨⟨x, hx, hx2⟩, -⟩ := g.next e he
 unfold prevB
 cases hf : (borderT T).find? (fun p => p.2 == e.1) with
 | none =>
  have := List.find?_eq_none.1 hf x hx
  simp [hx2] at this
 | some p =>
  have h1 := List.find?_some hf
  have h2 := List.mem_of_find?_eq_some hf
  exact ⟨h2, by simpa using h1⟩
theorem Built.place_ghost (h : Built fa T Bd S) {k : Nat} {e : Nat × Nat} (he : Bd[k]? = some e) : placeM S ((T.length + k : Nat) : Int) (-1) = 2 := by
 obtain ⟨X, hX, e0, e1, e2⟩ := h.ghost he
 unfold placeM
 rw [getT_nat, hX]
 simp only []
 rw [(h.surf.alive hX).2]
 simp only [Bool.false_eq_true, if_false]
 unfold placeT
 rw [if_neg (by omega), if_neg (by omega), if_pos e2.symm]
theorem Built.place_real (h : Built fa T Bd S) {t : Nat} (ht : t < T.length) : placeM S (t : Int) (-1) = -1 := by
 obtain ⟨x, hx⟩ : ∃ x, T[t]? = some x := ⟨_, List.getElem?_eq_getElem ht⟩
 obtain ⟨X, hX, e0, e1, e2⟩ := h.real hx
 unfold placeM
 rw [getT_nat, hX]
 simp only []
 rw [(h.surf.alive hX).2]
 simp only [Bool.false_eq_true, if_false]
 unfold placeT
 rw [if_neg (by omega), if_neg (by omega), if_neg (by omega)]
theorem Built.first (h : Built fa T Bd S) (hb : Bd ≠ []) : firstM S (-1) = ((T.length : Nat) : Int) := by
 obtain ⟨e, he⟩ : ∃ e, Bd[0]? = some e := by
  cases hB : Bd with
  | nil => exact absurd hB hb
  | cons e l => exact ⟨e, rfl⟩
 have hl : 0 < Bd.length := (List.getElem?_eq_some_iff.1 he).1
 have := h.place_ghost he
 rw [Nat.add_zero] at this
 exact firstM_hit (by rw [h.len]; omega) (by rw [this]; omega) (fun j hj => h.place_real hj)
theorem Built.step (h : Built fa T Bd S) {k k' : Nat} {e e' : Nat × Nat} (he : Bd[k]? = some e) (he' : Bd[k']? = some e') (hn : e'.2 = e.1) : stepM S (-1) ((T.length + k : Nat) : Int) = ((T.length + k' : Nat) : Int) := by
 obtain ⟨X, hX, e0, e1, e2⟩ := h.ghost he
 obtain ⟨Y, hY, f0, f1, f2⟩ := h.ghost he'
 unfold stepM
 rw [getT_nat, hX]
 simp only []
 have hp : placeT X (-1) = 2 := by
  unfold placeT
  rw [if_neg (by omega), if_neg (by omega), if_pos e2.symm]
 rw [hp, show (((2 : Int)).toNat + 1) % 3 = 0 from rfl]
 have := (h.surf.across hX hY (i := 0) (j := 1) (by omega) (by omega) (by
  show (Y.v2, Y.v0) = (X.v2, X.v1)
  rw [f2, f0, e2, e1, hn])).1
 exact this
theorem Built.walk (h : Built fa T Bd S) {k0 : Nat} {e0 : Nat × Nat} (h0 : Bd[k0]? = some e0) : ∀ (n k : Nat) (e : Nat × Nat), Bd[k]? = some e → rimZ S (walkM S (-1) ((T.length + k0 : Nat) : Int) n ((T.length + k : Nat) : Int)) = (cycB (borderT T) e0 n e).map (fun x => (x.2 : Int))
 | 0, _, _, _ => rfl
 | n + 1, k, e, he => by
  have hp := h.place_ghost he
  obtain ⟨X, hX, x0, x1, x2⟩ := h.ghost he
  obtain ⟨hm, hn⟩ := prevB_is h.good (h.mem.1 (List.mem_of_getElem? he))
  obtain ⟨k', hk'⟩ := List.mem_iff_getElem?.1 (h.mem.2 hm)
  have hs := h.step he hk' hn
  have ih := Built.walk h h0 n k' _ hk'
  unfold walkM cycB
  rw [hp, if_neg (by omega), hs]
  have hv : vAt S (T.length + k) 0 = (e.2 : Int) := by unfold vAt; rw [hX]; exact x0
  have hd : (((T.length + k' : Nat) : Int) = ((T.length + k0 : Nat) : Int)) ↔ prevB (borderT T) e = e0 := by
   constructor
   ·intro q
    have : k' = k0 := by omega
    subst this
    rw [hk'] at h0; exact Option.some.inj h0
   ·intro q
    rw [q] at hk'
    have hkl := (List.getElem?_eq_some_iff.1 hk').1
    have := (List.getElem?_inj hkl h.nodup).1 (hk'.trans h0.symm)
    omega
  by_cases hq : prevB (borderT T) e = e0
  ·rw [if_pos (hd.2 hq), if_pos hq]
   simp only [rimZ, List.map_cons, List.map_nil]
   rw [show (((2 : Int)).toNat + 1) % 3 = 0 from rfl, Int.toNat_natCast, hv]
  ·rw [if_neg (fun x => hq (hd.1 x)), if_neg hq]
   unfold rimZ at ih ⊢
   rw [List.map_cons, List.map_cons, ih]
   simp only [Int.toNat_natCast]
   rw [show (((2 : Int)).toNat + 1) % 3 = 0 from rfl, hv]
theorem Built.border (h : Built fa T Bd S) {e0 : Nat × Nat} (h0 : Bd[0]? = some e0) : borderM S = (rimB (borderT T) (T.length + (borderT T).length) e0).map (fun v : Nat => (v : Int)) := by
 have hb : Bd ≠ [] := by rintro rfl; simp at h0
 unfold borderM rimB
 rw [h.first hb]
 have := h.walk h0 S.length 0 e0 h0
 rw [Nat.add_zero] at this
 rw [this, h.len, h.perm.length_eq, List.map_reverse, List.map_map]; rfl
theorem Built.rest (h : Built fa T Bd S) {k : Nat} {e : Nat × Nat} (he : Bd[k]? = some e) {X : TriM} (hX : S[T.length + k]? = some X) : realM S X.n2 = true := by
 obtain ⟨Y, hY, e0, e1, e2⟩ := h.ghost he
 rw [hX] at hY; cases hY
 obtain ⟨u, j, U, hU, hj, hE, hn, -⟩ := h.surf.other hX (i := 2) (by omega)
 have hE' : edgeV U j = ((e.1 : Int), (e.2 : Int)) := by rw [hE]; show (X.v1, X.v0) = _; rw [e0, e1]
 have hn' : X.n2 = (u : Int) := hn
 rw [hn', h.real_iff]
 rcases h.cases hU with ⟨x, hx, -⟩ | ⟨k', e', rfl, he', f0, f1, f2⟩
 ·exact decide_eq_true (List.getElem?_eq_some_iff.1 hx).1
 ·exfalso
  have hb := mem_border.1 (h.mem.1 (List.mem_of_getElem? he))
  have hb' := mem_border.1 (h.mem.1 (List.mem_of_getElem? he'))
  obtain rfl | rfl | rfl : j = 0 ∨ j = 1 ∨ j = 2 := by omega
  ·simp only [edgeV, Prod.mk.injEq] at hE'; omega
  ·simp only [edgeV, Prod.mk.injEq] at hE'; omega
  ·simp only [edgeV, Prod.mk.injEq] at hE'
   have q : e' = (e.2, e.1) := Prod.ext (by simp only []; omega) (by simp only []; omega)
   rw [q] at hb'
   exact hb.2 hb'.1
end
end Go.MagM
namespace Go.Proofs.YtnabdopnlinklaaGreat
open Go.RowKit Go.MagM
section
variable {F : Int → Int → Bool} {T : List (Nat × Nat × Nat)} {Bd : List (Nat × Nat)} {S : List TriM} {P : List (Int × Int)}
theorem built_gh (h : Built (faF F) T Bd S) : ∀ k, k ≤ S.length → ghN S k = k - T.length
 | 0, _ => by simp [ghN]
 | k + 1, hk => by
  have ih := built_gh h k (by omega)
  by_cases hlt : k < T.length
  ·rw [ghN_none (h.place_real hlt), ih]; omega
  ·have hl := h.len
   obtain ⟨e, he⟩ : ∃ e, Bd[k - T.length]? = some e := ⟨_, List.getElem?_eq_getElem (by omega)⟩
   have hp := h.place_ghost he
   rw [show T.length + (k - T.length) = k by omega] at hp
   rw [ghN_some (by rw [hp]; omega), ih]; omega
theorem built_formed (h : Built (faF F) T Bd S) (ht : ∀ t, t ∈ T → 0 < turnM P (t.1 : Int) (t.2.1 : Int) (t.2.2 : Int)) {k : Nat} {X : TriM} (hX : S[k]? = some X) : formedT P S X = true := by
 unfold formedT
 rcases h.cases hX with ⟨x, hx, e0, e1, e2⟩ | ⟨j, e, rfl, he, e0, e1, e2⟩
 ·have hp : placeT X (-1) = -1 := by
   unfold placeT
   rw [if_neg (by omega), if_neg (by omega), if_neg (by omega)]
  rw [if_pos hp, e0, e1, e2]
  exact decide_eq_true (ht x (List.mem_of_getElem? hx))
 ·have hp : placeT X (-1) = 2 := by
   unfold placeT
   rw [if_neg (by omega), if_neg (by omega), if_pos e2.symm]
  rw [hp, if_neg (by omega), if_neg (by omega), if_neg (by omega), h.rest he hX]
  obtain ⟨_, _, _, _, _, _, _, g0, _⟩ := h.surf.other hX (i := 0) (by omega)
  obtain ⟨_, _, _, _, _, _, _, g1, _⟩ := h.surf.other hX (i := 1) (by omega)
  have f0 : X.f0 = false := by
   have : X.f0 = faF F X.v1 X.v2 := g0
   rw [this, e2]; unfold faF; simp
  have f1 : X.f1 = false := by
   have : X.f1 = faF F X.v2 X.v0 := g1
   rw [this, e2]; unfold faF; simp
  rw [f0, f1]; rfl
theorem built_sound (h : Built (faF F) T Bd S) (ht : ∀ t, t ∈ T → 0 < turnM P (t.1 : Int) (t.2.1 : Int) (t.2.2 : Int)) (hb : borderT T ≠ [])
  (hc : ∀ e0, e0 ∈ borderT T → (rimB (borderT T) (T.length + (borderT T).length) e0).length = (borderT T).length ∧ (∀ v, v ∈ rimB (borderT T) (T.length + (borderT T).length) e0 → v < P.length) ∧ convexM P (rimB (borderT T) (T.length + (borderT T).length) e0) = true) : SoundIs P S true := by
 have hbl : 0 < (borderT T).length := List.length_pos_iff.2 hb
 have hBl := h.perm.length_eq
 obtain ⟨e0, he0⟩ : ∃ e0, Bd[0]? = some e0 := ⟨_, List.getElem?_eq_getElem (by omega)⟩
 obtain ⟨c1, c2, c3⟩ := hc e0 (h.mem.1 (List.mem_of_getElem? he0))
 have hbo := h.border he0
 refine .inr ⟨rfl, fun k X hX => ?_, ?_, ?_, _, hbo, c2, c3⟩
 ·unfold okT; rw [built_formed h ht hX, h.surf.linked (faF_comm F) hX]; simp
 ·intro e
  rw [hbo] at e
  have := congrArg List.length e
  rw [List.length_map, c1, List.length_nil] at this
  omega
 ·rw [hbo, List.length_map, c1, built_gh h _ (Nat.le_refl _), h.len]; omega
end
/-- The points of a grid. -/
def gridP (w h : Nat) : List (Int × Int) := (List.range (h + 1)).flatMap fun y => (List.range (w + 1)).map fun x => (((2 * x : Nat) : Int), ((2 * y : Nat) : Int))
def soundG (w h bits : Nat) : Bool :=
 (gridT w h bits).all (fun t => decide (0 < turnM (gridP w h) (t.1 : Int) (t.2.1 : Int) (t.2.2 : Int))) && !(borderT (gridT w h bits)).isEmpty &&
 (borderT (gridT w h bits)).all (fun e0 =>
  (rimB (borderT (gridT w h bits)) ((gridT w h bits).length + (borderT (gridT w h bits)).length) e0).length == (borderT (gridT w h bits)).length &&
  (rimB (borderT (gridT w h bits)) ((gridT w h bits).length + (borderT (gridT w h bits)).length) e0).all (fun v => decide (v < (gridP w h).length)) &&
  convexM (gridP w h) (rimB (borderT (gridT w h bits)) ((gridT w h bits).length + (borderT (gridT w h bits)).length) e0)) &&
 decide (4 ≤ (gridT w h bits).length + (borderT (gridT w h bits)).length) && decide ((gridT w h bits).length ≤ 8) && (gridT w h bits).all (fun t => decide (t.1 < (gridP w h).length) && decide (t.2.1 < (gridP w h).length) && decide (t.2.2 < (gridP w h).length)) &&
 (gridP w h).all (fun p => decide (0 ≤ p.1 ∧ p.1 ≤ 4 ∧ 0 ≤ p.2 ∧ p.2 ≤ 4)) && decide ((gridP w h).length = (w + 1) * (h + 1))
def allSound : Bool := [1, 2].all fun w => [1, 2].all fun h => (List.range 16).all fun bits => soundG w h bits
set_option maxRecDepth 100000 in
theorem all_sound : allSound = true := by decide +kernel
theorem grid_soundG {w h : Nat} (hw : w = 1 ∨ w = 2) (hh : h = 1 ∨ h = 2) {bits : Nat} (hb : bits < 16) : soundG w h bits = true := by
 have := all_sound
 unfold allSound at this
 rw [List.all_eq_true] at this
 have h1 := this w (by rcases hw with rfl | rfl <;> simp)
 rw [List.all_eq_true] at h1
 have h2 := h1 h (by rcases hh with rfl | rfl <;> simp)
 rw [List.all_eq_true] at h2
 exact h2 bits (List.mem_range.2 hb)
/-- What is known of a grid. -/
structure GridOk (w h bits : Nat) : Prop where
 good : MagM.Good (gridT w h bits)
 turn : ∀ t, t ∈ gridT w h bits → 0 < turnM (gridP w h) (t.1 : Int) (t.2.1 : Int) (t.2.2 : Int)
 some_ : borderT (gridT w h bits) ≠ []
 rim : ∀ e0, e0 ∈ borderT (gridT w h bits) → (rimB (borderT (gridT w h bits)) ((gridT w h bits).length + (borderT (gridT w h bits)).length) e0).length = (borderT (gridT w h bits)).length ∧ (∀ v, v ∈ rimB (borderT (gridT w h bits)) ((gridT w h bits).length + (borderT (gridT w h bits)).length) e0 → v < (gridP w h).length) ∧ convexM (gridP w h) (rimB (borderT (gridT w h bits)) ((gridT w h bits).length + (borderT (gridT w h bits)).length) e0) = true
 four : 4 ≤ (gridT w h bits).length + (borderT (gridT w h bits)).length
 few : (gridT w h bits).length ≤ 8
 pts : ∀ t, t ∈ gridT w h bits → t.1 < (gridP w h).length ∧ t.2.1 < (gridP w h).length ∧ t.2.2 < (gridP w h).length
 small : ∀ p, p ∈ gridP w h → 0 ≤ p.1 ∧ p.1 ≤ 4 ∧ 0 ≤ p.2 ∧ p.2 ≤ 4
 many : (gridP w h).length = (w + 1) * (h + 1)
theorem grid_ok {w h : Nat} (hw : w = 1 ∨ w = 2) (hh : h = 1 ∨ h = 2) {bits : Nat} (hb : bits < 16) : GridOk w h bits := by
 have g := MagM.Good.of (grid_good hw hh hb)
 have s := grid_soundG hw hh hb
 unfold soundG at s
 simp only [Bool.and_eq_true, decide_eq_true_eq, List.all_eq_true, beq_iff_eq, Bool.not_eq_true', List.isEmpty_eq_false_iff] at s
 obtain ⟨⟨⟨⟨⟨⟨⟨s1, s2⟩, s3⟩, s4⟩, s5⟩, s6⟩, s7⟩, s8⟩ := s
 exact ⟨g, s1, s2, fun e he => by obtain ⟨⟨q1, q2⟩, q3⟩ := s3 e he; exact ⟨q1, q2, q3⟩, s4, s5, fun t ht => by obtain ⟨⟨q1, q2⟩, q3⟩ := s6 t ht; exact ⟨q1, q2, q3⟩, s7, s8⟩
end Go.Proofs.YtnabdopnlinklaaGreat
/- The statements' Build. -/
namespace Go.Proofs.YtnabdopnlinklaaGreat
open Go.RowKit Go.MagM
theorem infoE2 : (Tryz.prog.info? 138).map (fun i => (i.zero, i.size, i.bytes)) = some (some (.agg #[.int .i64 0, .int .i64 0]), 2, 16) := by kernel_rfl
set_option maxRecDepth 100000 in
set_option maxHeartbeats 16000000 in
theorem Build_any (F : Int → Int → Bool) (T : List (Nat × Nat × Nat)) (a b c fb trb tn tc sb n sc : Nat) (P : List (Int × Int)) (w : World) (g : Go.MagM.Good T) (h1 : T[0]? = some (a, b, c)) (hz : turnM P (a : Int) (b : Int) (c : Int) = 1) (hTl : T.length = tn) (hTs : tn ≤ 1000) (hTp : ∀ x, x ∈ T → x.1 < P.length ∧ x.2.1 < P.length ∧ x.2.2 < P.length)
  (htr : TrIn w trb (T.map realV)) (hf : FaultMap Tryz.prog 138 w fb F) (hn : P.length = n) (h0 : 0 < n) (hn9 : n ≤ 1000000) (hP : InPs P) (hc : PtsC w sb P) (hbd : 0 < (borderT T).length) (hbn : (borderT T).length ≤ 1000) (hbp : ∀ e, e ∈ borderT T → e.1 < P.length ∧ e.2 < P.length) :
  Calls Tryz.prog 85 #[.slice (some ⟨sb, 0, none⟩) n sc, .slice (some ⟨trb, 0, none⟩) tn tc, .map (some fb)] w fun e w' => ∃ mb, e = .returned (.pointer (some ⟨mb, 0, none⟩)) ∧ BuildEnd 24 37 F w.heap.size P T mb w' ∧ Below w.heap.size w w' := by
 obtain ⟨w1, hw1, pf_0, hB_0, hs1⟩ := new_box w _ rfl [.map (some fb)] 137
 have G := Lib.hid g; have HT1 := Lib.hid h1; have HTL := Lib.hid hTl; have HTP := Lib.hid hTp; have HTR := Lib.hid htr; have HF := Lib.hid hf; have HPS := Lib.hid hP; have HBD := Lib.hid hbd; have HBN := Lib.hid hbn; have HBP := Lib.hid hbp
 obtain ⟨ca, cb, cc⟩ := htr 0 (a : Int) (b : Int) (c : Int) (by rw [List.getElem?_map, h1]; rfl)
 have tn0 : (0 : Int) < (tn : Int) := by have := (List.getElem?_eq_some_iff.1 h1).1; omega
 have tn1 : 0 < tn := by omega
 have qt_0 : Ats3 w1 trb (0 * 3) (.int .i64 (a : Int)) (.int .i64 (b : Int)) (.int .i64 (c : Int)) := Ats3.below ⟨ca, cb, cc⟩ hB_0
 have pp_0 := hc.below hB_0
 have HZ := Lib.hid hz; have HNN := Lib.hid hn; have HN0 := Lib.hid h0; have HN9 := Lib.hid hn9
 have hltp := pf_0.lt
 have hgb1 := World.block_lt_of_cell? w1 _ qt_0.c0
 simp only at hgb1
 have hgb2 : sb < w1.heap.size := by
  obtain ⟨x, y, hx⟩ : ∃ x y, P[0]? = some (x, y) := ⟨(P[0]'(by omega)).1, (P[0]'(by omega)).2, List.getElem?_eq_getElem (by omega)⟩
  have := World.block_lt_of_cell? w1 _ (pp_0.c _ _ (ptsCells_get P 0 x y hx).1)
  exact this
 clear g h1 hTl hTp htr hf hP hc hz hn h0 hn9 ca cb cc hbd hbn hbp
 go_enter Tryz.func85, Tryz.ntmps85
 go_wp2
 clear hw1
 have hWq_0 := Below.refl w1.heap.size w1
 have hsq : w.heap.size ≤ w1.heap.size := hB_0.size
 have hlqpf := pf_0.lt
 have hB_1 := hB_0.drew'
 have pf_1 := pf_0.drew
 have qt_1 := qt_0.drew
 have pp_1 := pp_0.drew
 have hWq_1 := hWq_0.drew'
 clear hB_0 pf_0 qt_0 pp_0 hWq_0
 refine wp_region_noPanic ?_
 refine wp_region_held_drew (S := fun w' => w'.cell? ⟨trb, 0 * 3, none⟩ = some (.int .i64 (a : Int)) ∧ w'.cell? ⟨trb, 0 * 3 + 1, none⟩ = some (.int .i64 (b : Int)) ∧ w'.cell? ⟨trb, 0 * 3 + 2, none⟩ = some (.int .i64 (c : Int))) (by kernel_rfl) (⟨qt_1.c0, qt_1.c1, qt_1.c2⟩) (fun hHeld => ?_)
 refine rU 0 _ _ ?_
 (try simp only [Act.put]);try simp only [sA,sZ,sS]
 refine rU 1 _ _ ?_
 (try simp only [Act.put]);try simp only [sA,sZ,sS]
 refine rU 2 _ _ ?_
 (try simp only [Act.put]);try simp only [sA,sZ,sS]
 refine rU 3 _ _ ?_
 (try simp only [Act.put]);try simp only [sA,sZ,sS]
 refine rU 4 _ _ ?_
 (try simp only [Act.put]);try simp only [sA,sZ,sS]
 refine rU 5 _ _ ?_
 (try simp only [Act.put]);try simp only [sA,sZ,sS]
 refine rU 6 _ _ ?_
 (try simp only [Act.put]);try simp only [sA,sZ,sS]
 refine rU 7 _ _ ?_
 (try simp only [Act.put]);try simp only [sA,sZ,sS]
 refine rU 8 _ _ ?_
 (try simp only [Act.put]);try simp only [sA,sZ,sS]
 refine rU 9 _ _ ?_
 (try simp only [Act.put]);try simp only [sA,sZ,sS]
 refine rU 10 _ _ ?_
 (try simp only [Act.put]);try simp only [sA,sZ,sS]
 refine rU 11 _ _ ?_
 (try simp only [Act.put]);try simp only [sA,sZ,sS]
 refine rU 12 _ _ ?_
 (try simp only [Act.put]);try simp only [sA,sZ,sS]
 refine reg_grab (fun WWq aq hWW hAA => ?_)
 have HWq := Lib.hid hWW; have HAq := Lib.hid hAA; clear hWW hAA hHeld
 have stq_1t : ∀ (w' : World) (nmb : Nat) (npb : Nat) (npc : Nat) (vtv : Value) (gpm : Nat), Below w.heap.size w w' → Box w' (w.heap.size) [.map (some fb)] → Ats3 w' trb (0 * 3) (.int .i64 (a : Int)) (.int .i64 (b : Int)) (.int .i64 (c : Int)) → PtsC w' sb P → Below w1.heap.size w1 w' → MeshUp 24 37 w' w.heap.size nmb npb npc vtv P (newM (a : Int) (b : Int) (c : Int)) → Box w' gpm [.pointer none] → w1.heap.size ≤ gpm → WWq 2 #[true, true, true, true, true, true, true, true, true, true, true, true, true, true, true, true, true, true, false, false] (((((aq.put (some 33) (.tuple #[.pointer (some ⟨nmb, 0, none⟩), .bool true])).put (some 19) (.tuple #[.pointer (some ⟨nmb, 0, none⟩), .bool true])).put (some 34) (.pointer (some ⟨nmb, 0, none⟩))).put (some 35) (.bool true)).put (some 7) (.pointer (some ⟨gpm, 0, none⟩))) w' := by
  intro w11 nmb npb npc vtv gpm hB_0 pf_0 qt_0 pp_0 hWq_0 hms_0 pm_0 hgpm
  rw [HWq.out, HAq.out]
  (try simp only [Act.put]);try simp only [sA,sZ,sS]
  clear hWq_0
  obtain ⟨sf1a, sf1b⟩ := pm_0.open1
  refine reg_call 18 ?_ (by kernel_rfl) ?_ (fun K hK => ?_);rotate_left 1
  ·simp only [gA,gS,gZ]; exact rfl
  go_simp
  have hB_1 := below_setAll hB_0 (g := gpm) (by omega) [.pointer (some ⟨nmb, 0, none⟩)]
  have pf_1 := pf_0.farAll (g' := gpm) (by omega) [.pointer (some ⟨nmb, 0, none⟩)]
  have qt_1 := qt_0.farAll (g' := gpm) (by omega) [.pointer (some ⟨nmb, 0, none⟩)]
  have pp_1 := pp_0.farAll (g' := gpm) (by omega) [.pointer (some ⟨nmb, 0, none⟩)]
  have hms_1 := hms_0.setAll pm_0 (⟨by rw [HNN.out]; exact HN0.out, by show 0 < 4; omega⟩) [.pointer (some ⟨nmb, 0, none⟩)] rfl
  have pm_1 := pm_0.setAll [.pointer (some ⟨nmb, 0, none⟩)] rfl
  simp only [setAll] at hB_1 pf_1 qt_1 pp_1 hms_1 pm_1
  clear sf1a sf1b
  clear hB_0 pf_0 qt_0 pp_0 hms_0 pm_0
  refine hK.out _ _ ⟨qt_1.c0, qt_1.c1, qt_1.c2⟩ (fun hHeld => ?_)
  clear hK K
  (try simp only [Act.put]);try simp only [sA,sZ,sS]
  generalize (World.setCell w11 ⟨gpm, 0, none⟩ (.pointer (some ⟨nmb, 0, none⟩))) = w12 at *
  refine rU 19 _ _ ?_
  (try simp only [Act.put]);try simp only [sA,sZ,sS]
  refine wpAnyH_done (by kernel_rfl) ?_ _
  refine NoPanic.normal ?_
  obtain ⟨tb, tcap, htv⟩ := hms_1.mesh.slot (t := 0) rfl
  have htv : vtv = .slice (some ⟨tb, 0, none⟩) 4 tcap := htv
  subst htv
  have hlm := hms_1.mesh.low.2.1
  have hlg := pm_1.lt
  have hlf := pf_1.lt
  obtain ⟨q1, q2, q3⟩ := hms_1.mesh.apart_of (by rw [HNN.out]; exact HN0.out) (by show 0 < 4; omega) pm_1.c0 rfl
  have ct := hms_1.mesh.box.c1
  have HM := Lib.hid hms_1; have PM := Lib.hid pm_1; have PF := Lib.hid pf_1; have HBW := Lib.hid hB_1; have HTW := Lib.hid hTs
  have cpm := pm_1.c0
  clear hms_1 pf_1 hB_1 qt_1 pp_1 hTs hltp hgb1 hgb2 tn0 tn1 hs1 hsq hlqpf hgpm
  go_wp2
  clear ct cpm pm_1
  go_loopw [9, 43] (fun _ iv wr => ∃ i : Nat, i ≤ 4 ∧ iv = .int .i64 i ∧ MeshUp 24 37 wr w.heap.size nmb npb npc (.slice (some ⟨tb, 0, none⟩) 4 tcap) P (dropS (a : Int) (b : Int) (c : Int) i) ∧ Box wr gpm [.pointer (some ⟨nmb, 0, none⟩)] ∧ Box wr w.heap.size [.map (some fb)] ∧ Below w.heap.size w wr) (fun _ iv _ => 4 - (intOf iv).toNat)
  case atStart => exact ⟨0, by omega, rfl, HM.out, PM.out, PF.out, HBW.out⟩
  case round =>
   obtain ⟨i, hi, rfl, hm, hpm, hpf, hbw⟩ := hrel
   by_cases hlt : i < 4
   ·obtain ⟨T0, hT0, hg0⟩ := dropS_at a b c hlt
    have hdr := Drop_any i T0 wr hm.mesh hT0 hg0
    have HM' := Lib.hid hm; have PM' := Lib.hid hpm; have PF' := Lib.hid hpf; have HBW' := Lib.hid hbw; have HDR := Lib.hid hdr
    have cpm := hpm.c0
    clear hm hpf hbw hdr hT0 hg0 hpm
    go_wp2_with fail
    refine HDR.out.mono ?_
    rintro e w2 ⟨rfl, hm2, mu2⟩
    clear cpm
    obtain ⟨q4, q5, q6⟩ := HM'.out.mesh.apart_of (by rw [HNN.out]; exact HN0.out) (by rw [dropS_len]; omega) PM'.out.c0 rfl
    have hpm2 := Box.mut PM'.out mu2 PM'.out.lt q4 q6
    obtain ⟨r4, r5, r6⟩ := HM'.out.mesh.apart_of (by rw [HNN.out]; exact HN0.out) (by rw [dropS_len]; omega) PF'.out.c0 rfl
    have hpf2 := Box.mut PF'.out mu2 PF'.out.lt r4 r6
    have hbw2 := HBW'.out.trans (MeshUp.mut HM'.out mu2 HBW'.out.size)
    have FIN := Lib.hid (And.intro (show MeshUp 24 37 w2 w.heap.size nmb npb npc (.slice (some ⟨tb, 0, none⟩) 4 tcap) P (dropS (a : Int) (b : Int) (c : Int) (i + 1)) from ⟨hm2, HM'.out.pts⟩) (And.intro hpm2 (And.intro hpf2 hbw2)))
    clear hm2 mu2 hpm2 hpf2 hbw2
    go_wp2
    exact ⟨⟨i + 1, by omega, by go_num, FIN.out⟩, by simp [intOf]; omega⟩
   ·obtain rfl : i = 4 := by omega
    obtain ⟨ob, hob⟩ : ∃ ob, wr.heap.size = ob := ⟨_, rfl⟩
    obtain ⟨hmk, hmp⟩ := run_new_map (P := Tryz.prog) wr 177 138
    obtain ⟨w3, hw3⟩ : ∃ w3, wr.alloc (.map #[] 0) = w3 := ⟨_, rfl⟩
    rw [hw3, hob] at hmk hmp
    have hb3 : Below wr.heap.size wr w3 := by rw [← hw3]; exact (Below.refl _ _).alloc (Nat.le_refl _) _
    have hs3 : w3.heap.size = ob + 1 := by rw [← hw3, ← hob]; simp
    obtain ⟨w4, hw4, hpo, hb4, hs4⟩ := new_box w3 _ rfl [.map (some ob)] 177
    rw [dropS_all] at hm
    rw [hs3] at hpo
    have hb34 := hb3.trans (hb4.mono hb3.size)
    have HBW4 := Lib.hid (hbw.trans (hb34.mono hbw.size))
    have hbi : BI Tryz.prog 24 37 138 (faF F) w4 w.heap.size nmb npb npc ob (ob + 1) gpm w.heap.size fb P [] (.slice (some ⟨tb, 0, none⟩) 4 tcap) [goneTri, goneTri, goneTri, goneTri] [] := ⟨hm.below hb34, hmp.below hb4, builtS_nil, Joined.nil _ _, hpo, hpm.below hb34, hpf.below hb34, by have := hbw.size; omega⟩
    have HBI := Lib.hid hbi
    have hdv : Distinct (hRev (T.map realV).reverse) := by
     have e1 := all_nodup G.out (List.Perm.refl _)
     have e2 := all_apart G.out (List.Perm.refl _)
     unfold allE at e1 e2
     rw [List.flatMap_append] at e1 e2
     exact distinct_list (List.nodup_append.1 e1).1 (fun e he => e2 e (List.mem_append_left _ he))
    have HDV := Lib.hid hdv; clear hdv hbi
    clear hm hpm hpf hbw hb3 hb4 hb34 hpo hmp hs4 hlt hi
    go_wp2
    go_loopw [13, 54] (fun _ iv wr => ∃ k : Nat, k ≤ tn ∧ iv = .int .i64 k ∧ (∃ tv S op, BI Tryz.prog 24 37 138 (faF F) wr w.heap.size nmb npb npc ob (ob + 1) gpm w.heap.size fb P ((T.map realV).take k).reverse tv S op) ∧ Below w.heap.size w wr) (fun _ iv _ => tn - (intOf iv).toNat)
    case atStart => exact ⟨0, Nat.zero_le _, rfl, ⟨_, _, _, HBI.out⟩, HBW4.out⟩
    case round =>
     obtain ⟨k, hk, rfl, ⟨tv, S, op, hbi⟩, hbw⟩ := hrel
     by_cases hlt : k < tn
     ·obtain ⟨⟨x, y, z⟩, hv⟩ : ∃ v, T[k]? = some v := ⟨_, List.getElem?_eq_getElem (by rw [HTL.out]; exact hlt)⟩
      obtain ⟨px, py, pz⟩ := HTP.out _ (List.mem_of_getElem? hv)
      simp only [] at px py pz
      have htk := HTR.out k (x : Int) (y : Int) (z : Int) (by rw [List.getElem?_map, hv]; rfl)
      have ka := (hbw.cell (World.block_lt_of_cell? w _ htk.1)).trans htk.1
      have kb := (hbw.cell (World.block_lt_of_cell? w _ htk.2.1)).trans htk.2.1
      have kc := (hbw.cell (World.block_lt_of_cell? w _ htk.2.2)).trans htk.2.2
      have lmb := hbi.up.mesh.low.2.1
      have ltv : ∀ q, tv.ownBlock = some q → q < wr.heap.size := fun q hq => (hbi.up.mesh.row.lt q hq).2
      have lob := hbi.map.lt
      have hPp : 0 < P.length := by omega
      obtain ⟨R, hR⟩ : ∃ R, ((T.map realV).take k).reverse = R := ⟨_, rfl⟩
      have hRl : R.length = k := by rw [← hR]; simp; have := HTL.out; omega
      have hRn : ((T.map realV).take (k + 1)).reverse = ((x : Int), (y : Int), (z : Int)) :: R := by
       rw [List.take_add_one, List.getElem?_map, hv, List.reverse_append, hR]; rfl
      rw [hR] at hbi
      have hdn := distinct_take HDV.out (k + 1)
      rw [hRn] at hdn
      obtain ⟨w5, hw5, hpv, hb5, hs5⟩ := new_box wr _ rfl [.int .i64 (x : Int), .int .i64 (y : Int), .int .i64 (z : Int)] 34
      have hb6 := (hbi.below hb5).drew
      have hbw6 : Below w.heap.size w w5.drew := (hbw.trans (hb5.mono hbw.size)).drew'
      have hmk := mkTri_any (x : Int) (y : Int) (z : Int) w5.drew hb6.up.mesh (by have := hb6.built.len; have := HTW.out; omega)
      rw [hb6.built.slot, hRl] at hmk
      have c6 : w5.drew.cell? ⟨gpm, 0, none⟩ = some (.pointer (some ⟨nmb, 0, none⟩)) := hb6.bm.c0
      have d0 : w5.drew.cell? ⟨wr.heap.size, 0, none⟩ = some (.int .i64 (x : Int)) := hpv.c0
      have d1 : w5.drew.cell? ⟨wr.heap.size, 1, none⟩ = some (.int .i64 (y : Int)) := hpv.c1
      have d2 : w5.drew.cell? ⟨wr.heap.size, 2, none⟩ = some (.int .i64 (z : Int)) := hpv.c2
      have l5 : wr.heap.size < w5.drew.heap.size := hpv.lt
      have HPX := Lib.hid (And.intro px (And.intro py pz))
      have HB6 := Lib.hid hb6; have HBW6 := Lib.hid hbw6; have HMK := Lib.hid hmk; have HPV := Lib.hid hpv.drew; have HRL := Lib.hid hRl; have HRN := Lib.hid hRn; have HDN := Lib.hid hdn
      have kx1 : (0 : Int) ≤ (k : Int) := by omega
      have kx2 : (k : Int) < (tn : Int) := by omega
      clear hv px py pz htk hR hRl hRn hdn hb6 hbw6 hmk hpv hb5 hbi hbw hs5
      go_wp2
      clear ka kb kc
      obtain ⟨SSs, hSSs⟩ : ∃ S : Array Bool → World → Prop, ∀ l w', S l w' ↔ ((w'.cell? ⟨gpm, 0, none⟩ = some (.pointer (some ⟨nmb, 0, none⟩))) ∧ (w'.cell? ⟨wr.heap.size, 0, none⟩ = some (.int .i64 (x : Int))) ∧ (w'.cell? ⟨wr.heap.size, 1, none⟩ = some (.int .i64 (y : Int))) ∧ (w'.cell? ⟨wr.heap.size, 2, none⟩ = some (.int .i64 (z : Int)))) := ⟨_, fun _ _ => Iff.rfl⟩
      refine wp_region_noPanic ?_
      refine wp_region_G SSs 11 #[false, false, false, false, false, false, false, false, false, false, false] (by kernel_rfl) (by kernel_rfl) (by kernel_rfl) ((hSSs _ _).2 ⟨c6, d0, d1, d2⟩) (fun hCl hHeld => ?_)
      generalize w5.drew = w6 at *
      refine rG 0 ?_ ?_ ?_ ?_ ?_ ?_ hCl hHeld ?_;rotate_left 2
      ·simp only [gA,gZ]; exact rfl
      ·intro l w'; rw [hSSs, hSSs]
      ·rfl
      ·intro w' hA;clear hA;go_simp;try with_reducible rfl
      clear hCl hHeld
      intro hCl hHeld
      simp only [List.setIfInBounds_toArray, List.set_cons_zero] at hCl hHeld
      (try simp only [Act.put]);try simp only [sA,sZ,sS]
      refine rG 1 ?_ ?_ ?_ ?_ ?_ ?_ hCl hHeld ?_;rotate_left 2
      ·simp only [gA,gS,gZ]; exact rfl
      ·intro l w'; rw [hSSs, hSSs]
      ·rfl
      ·intro w' hA; obtain ⟨l, hl, hi, hSl⟩ := hA; have hSl := (hSSs _ _).1 hSl; obtain ⟨hz0, hz1, hz2, hz3⟩ := hSl; go_simp; try with_reducible rfl
      clear hCl hHeld
      intro hCl hHeld
      simp only [sA,sZ,sS] at hCl hHeld
      (try simp only [Act.put]);try simp only [sA,sZ,sS]
      refine rG 2 ?_ ?_ ?_ ?_ ?_ ?_ hCl hHeld ?_;rotate_left 2
      ·simp only [gA,gS,gZ]; exact rfl
      ·intro l w'; rw [hSSs, hSSs]
      ·rfl
      ·intro w' hA;clear hA;go_simp;try with_reducible rfl
      clear hCl hHeld
      intro hCl hHeld
      simp only [sA,sZ,sS] at hCl hHeld
      (try simp only [Act.put]);try simp only [sA,sZ,sS]
      refine rG 3 ?_ ?_ ?_ ?_ ?_ ?_ hCl hHeld ?_;rotate_left 2
      ·simp only [gA,gS,gZ]; exact rfl
      ·intro l w'; rw [hSSs, hSSs]
      ·rfl
      ·intro w' hA; obtain ⟨l, hl, hi, hSl⟩ := hA; have hSl := (hSSs _ _).1 hSl; obtain ⟨hz0, hz1, hz2, hz3⟩ := hSl; go_simp; try with_reducible rfl
      clear hCl hHeld
      intro hCl hHeld
      simp only [sA,sZ,sS] at hCl hHeld
      (try simp only [Act.put]);try simp only [sA,sZ,sS]
      refine rG 4 ?_ ?_ ?_ ?_ ?_ ?_ hCl hHeld ?_;rotate_left 2
      ·simp only [gA,gS,gZ]; exact rfl
      ·intro l w'; rw [hSSs, hSSs]
      ·rfl
      ·intro w' hA;clear hA;go_simp;try with_reducible rfl
      clear hCl hHeld
      intro hCl hHeld
      simp only [sA,sZ,sS] at hCl hHeld
      (try simp only [Act.put]);try simp only [sA,sZ,sS]
      refine rG 5 ?_ ?_ ?_ ?_ ?_ ?_ hCl hHeld ?_;rotate_left 2
      ·simp only [gA,gS,gZ]; exact rfl
      ·intro l w'; rw [hSSs, hSSs]
      ·rfl
      ·intro w' hA; obtain ⟨l, hl, hi, hSl⟩ := hA; have hSl := (hSSs _ _).1 hSl; obtain ⟨hz0, hz1, hz2, hz3⟩ := hSl; go_simp; try with_reducible rfl
      clear hCl hHeld
      intro hCl hHeld
      simp only [sA,sZ,sS] at hCl hHeld
      (try simp only [Act.put]);try simp only [sA,sZ,sS]
      refine rG 6 ?_ ?_ ?_ ?_ ?_ ?_ hCl hHeld ?_;rotate_left 2
      ·simp only [gA,gS,gZ]; exact rfl
      ·intro l w'; rw [hSSs, hSSs]
      ·rfl
      ·intro w' hA;clear hA;go_simp;try with_reducible rfl
      clear hCl hHeld
      intro hCl hHeld
      simp only [sA,sZ,sS] at hCl hHeld
      (try simp only [Act.put]);try simp only [sA,sZ,sS]
      refine rG 7 ?_ ?_ ?_ ?_ ?_ ?_ hCl hHeld ?_;rotate_left 2
      ·simp only [gA,gS,gZ]; exact rfl
      ·intro l w'; rw [hSSs, hSSs]
      ·rfl
      ·intro w' hA; obtain ⟨l, hl, hi, hSl⟩ := hA; have hSl := (hSSs _ _).1 hSl; obtain ⟨hz0, hz1, hz2, hz3⟩ := hSl; go_simp; try with_reducible rfl
      clear hCl hHeld
      intro hCl hHeld
      simp only [sA,sZ,sS] at hCl hHeld
      (try simp only [Act.put]);try simp only [sA,sZ,sS]
      refine rG 9 ?_ ?_ ?_ ?_ ?_ ?_ hCl hHeld ?_;rotate_left 2
      ·simp only [gA,gS,gZ]; exact rfl
      ·intro l w'; rw [hSSs, hSSs]
      ·rfl
      ·intro w' hA; obtain ⟨l, hl, hi, hSl⟩ := hA; have hSl := (hSSs _ _).1 hSl; obtain ⟨hz0, hz1, hz2, hz3⟩ := hSl; go_simp; try with_reducible rfl
      clear hCl hHeld
      intro hCl hHeld
      simp only [sA,sZ,sS] at hCl hHeld
      (try simp only [Act.put]);try simp only [sA,sZ,sS]
      clear hCl hHeld
      refine reg_callG 8 ?_ (by kernel_rfl) ?_ (fun K hK => ?_);rotate_left 1
      ·simp only [gA,gS,gZ]; exact rfl
      go_simp
      refine HMK.out.mono ?_
      rintro e w8 ⟨tv1, rfl, hm8, mu8⟩
      go_wp2_with fail
      clear c6 d0 d1 d2
      obtain ⟨m8, xo8, xm8, xf8, so8, sm8, sf8, sob8, bu8, j8⟩ := HB6.out.made hPp (by omega) hm8 mu8
      obtain ⟨kq1, kq2⟩ := mu8.keep wr.heap.size l5 (by omega) (fun e => Nat.lt_irrefl _ (ltv _ e))
      have pv8 := HPV.out.same kq1
      have b68 : Below w.heap.size w w8 := HBW6.out.trans (HB6.out.up.mut mu8 HBW6.out.size)
      have hjn := join_any F (hRev R) op k (x : Int) (y : Int) (z : Int) (ob + 1) gpm w.heap.size ob fb w8 hm8 m8 (HF.out.same (b68.block fb HF.out.lt)) xo8 xm8 xf8 so8 sm8 sf8
       ⟨by have := HF.out.lt; have := hm8.low.1; omega, fun e => by have := HF.out.lt; have := (hm8.row.lt fb e).1; omega, by have := HF.out.lt; have := HB6.out.big; omega⟩ sob8
       (bu8.v k _ (by rw [List.reverse_cons, List.getElem?_append_right (by simp [HRL.out])]; simp [HRL.out])) (by omega) (fun i => by have := HPX.out; have := HN9.out; have := HNN.out; unfold at3; split <;> omega)
       (fun t' i' e he => bu8.lives t' i' e (halfI_sub (i := 0) 3 he)) j8 (by have := HDN.out; rw [← HRL.out]; exact this) (fun i e he => HB6.out.built.fresh i e (by rw [HRL.out]; exact he))
      have c8 := xm8.c0; have e0 := pv8.c0; have e1 := pv8.c1; have e2 := pv8.c2
      have HJN := Lib.hid hjn; have HM8 := Lib.hid hm8; have MU8 := Lib.hid mu8; have HPV8 := Lib.hid pv8; have HO8 := Lib.hid kq2; have B68 := Lib.hid b68
      have l8 : wr.heap.size < w8.heap.size := pv8.lt
      clear m8 xo8 xm8 xf8 so8 sm8 sf8 sob8 bu8 j8 kq1 kq2 pv8 b68 hjn hm8 mu8
      refine hK.out _ _ ((hSSs _ _).2 ⟨c8, e0, e1, e2⟩) ?_
      clear hK K
      (try simp only [Act.put]);try simp only [sA,sZ,sS]
      refine reg_callG 10 ?_ (by kernel_rfl) ?_ (fun K hK => ?_);rotate_left 1
      ·simp only [gA,gS,gZ]; exact rfl
      go_simp
      refine HJN.out.mono ?_
      rintro e w9 ⟨rfl, hj9⟩
      go_wp2_with fail
      clear c8 e0 e1 e2
      have pv9 : Box w9 wr.heap.size [.int .i64 (x : Int), .int .i64 (y : Int), .int .i64 (z : Int)] := by
       obtain ⟨-, -, -, -, -, -, -, k9⟩ := hj9
       exact HPV8.out.same (k9.keep wr.heap.size l8 (by omega) HO8.out (by omega))
      obtain ⟨hbi9, b69⟩ := HB6.out.next hPp (by omega) HM8.out MU8.out (by rw [HRL.out]; exact hj9) HBW6.out.size
      obtain ⟨S9, op9, hb9⟩ := hbi9
      have c9 := hb9.bm.c0; have f0 := pv9.c0; have f1 := pv9.c1; have f2 := pv9.c2
      have HB9 := Lib.hid hb9; have HBW9 := Lib.hid (HBW6.out.trans b69)
      clear hj9 pv9 b69 hb9
      refine hK.out _ _ ((hSSs _ _).2 ⟨c9, f0, f1, f2⟩) ?_
      clear hK K
      (try simp only [Act.put]);try simp only [sA,sZ,sS]
      refine wpAnyG_done (by kernel_rfl) ?_ _
      refine NoPanic.normal ?_
      clear hSSs SSs
      have htw := HTW.out
      go_wp2
      refine ⟨⟨_, _, _, _, _, _, _, _, _, _, _, _, _, _, _, _, _, ⟨k + 1, by omega, by go_num, ⟨tv1, S9, op9, by rw [HRN.out]; exact HB9.out⟩, HBW9.out⟩, rfl⟩, ?_⟩
      simp [intOf]; omega
     ·obtain rfl : tn = k := by omega
      have htk : (T.map realV).take tn = T.map realV := by rw [← HTL.out, ← List.length_map (f := realV)]; exact List.take_length
      rw [htk] at hbi
      have hpm := open_perm G.out hbi.joined (keys_nodup hbi.map.once)
      have hmem : ∀ e, e ∈ op.map (·.1) → ∃ x, x ∈ borderT T ∧ e = castE x := fun e he => (open_mem hbi.joined).1 he
      have hol : op.length = (borderT T).length := by have := hpm.length_eq; simpa using this
      obtain ⟨rb, hrb⟩ : ∃ rb, wr.heap.size = rb := ⟨_, rfl⟩
      obtain ⟨w5, hrg, hit, hb5, hs5⟩ := hbi.map.range (P := Tryz.prog) Tryz.underlying177
      rw [hrb] at hrg hit
      have hs5' : rb + 1 ≤ w5.heap.size := by omega
      have hb5' : Below rb wr w5 := hb5.mono (by omega)
      have cbo := hbi.bo.c0
      have HBI2 := Lib.hid hbi; have HBW2 := Lib.hid hbw; have HPM := Lib.hid hpm; have HMEM := Lib.hid hmem; have HOL := Lib.hid hol; have HIT := Lib.hid hit; have HB5 := Lib.hid hb5'; have HS5 := Lib.hid hs5'; have HRB := Lib.hid hrb
      clear hbi hbw hpm hmem hol hit hb5 hb5' hs5 hs5' htk hlt hk hrb
      obtain ⟨i0, hi, hz0, hz1, hz2⟩ := info_parts infoE2
      have HI := Lib.hid hi; have HZ0 := Lib.hid hz0; have HZ1 := Lib.hid hz1; have HZ2 := Lib.hid hz2
      clear hi hz0 hz1 hz2
      go_wp2
      clear hrg cbo
      obtain ⟨wo, rfl⟩ : ∃ wo, wo = wr := ⟨_, rfl⟩
      go_loopw [14, 15] (fun bv _ wq => ∃ (bq : Value) (E : List (Nat × Nat)) (rest : List (Value × Value)), bq = bv ∧ RowN wq (rb + 1) 138 2 bq E.length (edgCells E) ∧ IterB wq rb ob (op.map encO) rest ∧ LeftO op E rest ∧ Below rb wo wq ∧ rb + 1 ≤ wq.heap.size ∧ E.length ≤ op.length) (fun bv _ _ => op.length - lenV bv)
      case atStart => exact ⟨_, [], _, rfl, RowN.nil _ _ _ _, HIT.out, LeftO.start op, HB5.out, HS5.out, Nat.zero_le _⟩
      case round =>
       obtain ⟨bv, E, rest, rfl, hrow, hit, hlf, hbq, hsq, hel⟩ := hrel
       obtain ⟨wq, rfl⟩ : ∃ wq, wq = wr := ⟨_, rfl⟩
       rcases hit.next (P := Tryz.prog) 0 with ⟨rfl, hnx⟩ | ⟨i, x, v, w6, hx, hnx, hit6, ht6, hen⟩
       ·have hEp := hlf.done HPM.out
        have HROW := Lib.hid hrow; have HBQ := Lib.hid hbq; have HEP := Lib.hid hEp
        clear hrow hit hlf hbq hel
        obtain ⟨g, gc, hbv, hgb⟩ : ∃ g gc, bv = .slice (some ⟨g, 0, none⟩) E.length gc ∧ rb + 1 ≤ g := by
         have h0 : 0 < E.length := by rw [HEP.out.length_eq]; exact HBD.out
         rcases HROW.out.2 with ⟨h1, h2⟩ | ⟨g, cap, cur, h1, h2, h3⟩
         ·omega
         ·exact ⟨g, cap, h1, h2⟩
        subst hbv
        have hcel := HROW.out.cells (g := g) rfl
        obtain ⟨en, hen⟩ : ∃ en, E.length = en := ⟨_, rfl⟩
        rw [hen]
        have hb2 := HBI2.out.below (HRB.out.symm ▸ HBQ.out)
        have htg : tv.ownBlock ≠ some g := fun e => by have := (HBI2.out.up.mesh.row.lt g e).2; have := HRB.out; omega
        have HCEL := Lib.hid hcel; have HEN := Lib.hid hen; have HB2 := Lib.hid hb2; have HTG := Lib.hid htg
        have HBW3 := Lib.hid (HBW2.out.trans (HBQ.out.mono (by have := HBW2.out.size; have := HRB.out; omega)))
        have hmb : nmb < rb := by have := HBI2.out.up.mesh.low.2.1; have := HRB.out; omega
        have hob : ob < rb := by have := HBI2.out.map.lt; have := HRB.out; omega
        have hen9 : en ≤ 1000 := by have := HBN.out; have := HEP.out.length_eq; omega
        clear hcel hen hb2 htg
        go_wp2
        clear hnx
        go_loopw [17, 18, 82] (fun _ _ iv wz => ∃ k : Nat, k ≤ en ∧ iv = .int .i64 k ∧ (∃ tv S op, BI Tryz.prog 24 37 138 (faF F) wz w.heap.size nmb npb npc ob (ob + 1) gpm w.heap.size fb P (((E.take k).map ghostV).reverse ++ (T.map realV).reverse) tv S op ∧ tv.ownBlock ≠ some g) ∧ wz.heap[g]? = wq.heap[g]? ∧ wq.heap.size ≤ wz.heap.size ∧ Below w.heap.size w wz) (fun _ _ iv _ => en - (intOf iv).toNat)
        case atStart => exact ⟨0, Nat.zero_le _, rfl, ⟨tv, S, op, HB2.out, HTG.out⟩, rfl, Nat.le_refl _, HBW3.out⟩
        case round =>
         obtain ⟨k, hk, rfl, ⟨tvz, Sz, opz, hbi, htg⟩, hgz, hzs, hbw⟩ := hrel
         obtain ⟨wz, rfl⟩ : ∃ wz, wz = wr := ⟨_, rfl⟩
         by_cases hlt : k < en
         ·obtain ⟨⟨ey, ex⟩, hv⟩ : ∃ v, E[k]? = some v := ⟨_, List.getElem?_eq_getElem (by rw [HEN.out]; exact hlt)⟩
          obtain ⟨p1, p2⟩ := HBP.out _ (HEP.out.mem_iff.1 (List.mem_of_getElem? hv))
          simp only [] at p1 p2
          obtain ⟨g1, g2⟩ := edgCells_get E k (ey, ex) hv
          simp only [] at g1 g2
          have ka : wz.cell? ⟨g, k * 2, none⟩ = some (.int .i64 (ey : Int)) := (World.cell?_of_block (a := ⟨g, k * 2, none⟩) hgz).trans (HCEL.out _ _ g1)
          have kb : wz.cell? ⟨g, k * 2 + 1, none⟩ = some (.int .i64 (ex : Int)) := (World.cell?_of_block (a := ⟨g, k * 2 + 1, none⟩) hgz).trans (HCEL.out _ _ g2)
          have lgz : g < wz.heap.size := World.block_lt_of_cell? wz _ ka
          have lmb := hbi.up.mesh.low.2.1
          have ltv : ∀ q, tvz.ownBlock = some q → q < wz.heap.size := fun q hq => (hbi.up.mesh.row.lt q hq).2
          have lob := hbi.map.lt
          have hPp : 0 < P.length := by omega
          obtain ⟨R, hR⟩ : ∃ R, (((E.take k).map ghostV).reverse ++ (T.map realV).reverse) = R := ⟨_, rfl⟩
          have hRl : R.length = tn + k := by rw [← hR]; simp; have := HTL.out; have := HEN.out; omega
          have hRn : (((E.take (k + 1)).map ghostV).reverse ++ (T.map realV).reverse) = ((ex : Int), (ey : Int), -1) :: R := by rw [ghost_next hv, hR]
          rw [hR] at hbi
          have hdn := distinct_take (all_distinct' G.out HEP.out) (T.length + (k + 1))
          rw [take_both, hRn] at hdn
          obtain ⟨u5, hu5, hpe, hc5, hsu⟩ := new_box wz _ rfl [.int .i64 (ey : Int), .int .i64 (ex : Int)] 138
          obtain ⟨vb, hvb⟩ : ∃ vb, u5.heap.size = vb := ⟨_, rfl⟩
          obtain ⟨w5, hw5, hpv, hb5, hs5⟩ := new_box u5 _ rfl [.int .i64 (ex : Int), .int .i64 (ey : Int), .int .i64 (-1)] 34
          rw [hvb] at hpv
          have pe0 := hpe.c0; have pe1 := hpe.c1
          have hbe : Below wz.heap.size wz w5 := hc5.trans (hb5.mono hc5.size)
          have hb6 := (hbi.below hbe).drew
          have hbw6 : Below w.heap.size w w5.drew := (hbw.trans (hbe.mono hbw.size)).drew'
          have hmk := mkTri_any (ex : Int) (ey : Int) (-1) w5.drew hb6.up.mesh (by have := hb6.built.len; have := HTW.out; omega)
          rw [hb6.built.slot, hRl] at hmk
          have c6 : w5.drew.cell? ⟨gpm, 0, none⟩ = some (.pointer (some ⟨nmb, 0, none⟩)) := hb6.bm.c0
          have d0 : w5.drew.cell? ⟨vb, 0, none⟩ = some (.int .i64 (ex : Int)) := hpv.c0
          have d1 : w5.drew.cell? ⟨vb, 1, none⟩ = some (.int .i64 (ey : Int)) := hpv.c1
          have d2 : w5.drew.cell? ⟨vb, 2, none⟩ = some (.int .i64 (-1)) := hpv.c2
          have l5 : vb < w5.drew.heap.size := hpv.lt
          have lvb : wz.heap.size < vb := by omega
          have hg6 : w5.drew.heap[g]? = wq.heap[g]? := (hbe.block g lgz).trans hgz
          have hs6 : wq.heap.size ≤ w5.drew.heap.size := by show _ ≤ w5.heap.size; have := hbe.size; omega
          have lg6 : g < w5.drew.heap.size := by show _ < w5.heap.size; have := hbe.size; omega
          have HPX := Lib.hid (And.intro p2 p1)
          have HB6 := Lib.hid hb6; have HBW6 := Lib.hid hbw6; have HMK := Lib.hid hmk; have HPV := Lib.hid hpv.drew; have HRL := Lib.hid hRl; have HRN := Lib.hid hRn; have HDN := Lib.hid hdn
          have HG6 := Lib.hid hg6; have HS6 := Lib.hid hs6; have HTGZ := Lib.hid htg; have HGZ := Lib.hid hgz
          have kx1 : (0 : Int) ≤ (k : Int) := by omega
          have kx2 : (k : Int) < (en : Int) := by omega
          clear hv p1 p2 g1 g2 hR hRl hRn hdn hb6 hbw6 hmk hpv hb5 hbi hbw hs5 hsu hpe hc5 hbe hg6 hs6 hgz
          go_wp2
          clear ka kb pe0 pe1
          obtain ⟨SSs, hSSs⟩ : ∃ S : Array Bool → World → Prop, ∀ l w', S l w' ↔ ((w'.cell? ⟨gpm, 0, none⟩ = some (.pointer (some ⟨nmb, 0, none⟩))) ∧ (w'.cell? ⟨vb, 0, none⟩ = some (.int .i64 (ex : Int))) ∧ (w'.cell? ⟨vb, 1, none⟩ = some (.int .i64 (ey : Int))) ∧ (w'.cell? ⟨vb, 2, none⟩ = some (.int .i64 (-1)))) := ⟨_, fun _ _ => Iff.rfl⟩
          refine wp_region_noPanic ?_
          refine wp_region_G SSs 11 #[false, false, false, false, false, false, false, false, false, false, false] (by kernel_rfl) (by kernel_rfl) (by kernel_rfl) ((hSSs _ _).2 ⟨c6, d0, d1, d2⟩) (fun hCl hHeld => ?_)
          generalize w5.drew = w6 at *
          refine rG 0 ?_ ?_ ?_ ?_ ?_ ?_ hCl hHeld ?_;rotate_left 2
          ·simp only [gA,gZ]; exact rfl
          ·intro l w'; rw [hSSs, hSSs]
          ·rfl
          ·intro w' hA;clear hA;go_simp;try with_reducible rfl
          clear hCl hHeld
          intro hCl hHeld
          simp only [List.setIfInBounds_toArray, List.set_cons_zero] at hCl hHeld
          (try simp only [Act.put]);try simp only [sA,sZ,sS]
          refine rG 1 ?_ ?_ ?_ ?_ ?_ ?_ hCl hHeld ?_;rotate_left 2
          ·simp only [gA,gS,gZ]; exact rfl
          ·intro l w'; rw [hSSs, hSSs]
          ·rfl
          ·intro w' hA; obtain ⟨l, hl, hi, hSl⟩ := hA; have hSl := (hSSs _ _).1 hSl; obtain ⟨hz0, hz1, hz2, hz3⟩ := hSl; go_simp; try with_reducible rfl
          clear hCl hHeld
          intro hCl hHeld
          simp only [sA,sZ,sS] at hCl hHeld
          (try simp only [Act.put]);try simp only [sA,sZ,sS]
          refine rG 2 ?_ ?_ ?_ ?_ ?_ ?_ hCl hHeld ?_;rotate_left 2
          ·simp only [gA,gS,gZ]; exact rfl
          ·intro l w'; rw [hSSs, hSSs]
          ·rfl
          ·intro w' hA;clear hA;go_simp;try with_reducible rfl
          clear hCl hHeld
          intro hCl hHeld
          simp only [sA,sZ,sS] at hCl hHeld
          (try simp only [Act.put]);try simp only [sA,sZ,sS]
          refine rG 3 ?_ ?_ ?_ ?_ ?_ ?_ hCl hHeld ?_;rotate_left 2
          ·simp only [gA,gS,gZ]; exact rfl
          ·intro l w'; rw [hSSs, hSSs]
          ·rfl
          ·intro w' hA; obtain ⟨l, hl, hi, hSl⟩ := hA; have hSl := (hSSs _ _).1 hSl; obtain ⟨hz0, hz1, hz2, hz3⟩ := hSl; go_simp; try with_reducible rfl
          clear hCl hHeld
          intro hCl hHeld
          simp only [sA,sZ,sS] at hCl hHeld
          (try simp only [Act.put]);try simp only [sA,sZ,sS]
          refine rG 4 ?_ ?_ ?_ ?_ ?_ ?_ hCl hHeld ?_;rotate_left 2
          ·simp only [gA,gS,gZ]; exact rfl
          ·intro l w'; rw [hSSs, hSSs]
          ·rfl
          ·intro w' hA;clear hA;go_simp;try with_reducible rfl
          clear hCl hHeld
          intro hCl hHeld
          simp only [sA,sZ,sS] at hCl hHeld
          (try simp only [Act.put]);try simp only [sA,sZ,sS]
          refine rG 5 ?_ ?_ ?_ ?_ ?_ ?_ hCl hHeld ?_;rotate_left 2
          ·simp only [gA,gS,gZ]; exact rfl
          ·intro l w'; rw [hSSs, hSSs]
          ·rfl
          ·intro w' hA; obtain ⟨l, hl, hi, hSl⟩ := hA; have hSl := (hSSs _ _).1 hSl; obtain ⟨hz0, hz1, hz2, hz3⟩ := hSl; go_simp; try with_reducible rfl
          clear hCl hHeld
          intro hCl hHeld
          simp only [sA,sZ,sS] at hCl hHeld
          (try simp only [Act.put]);try simp only [sA,sZ,sS]
          refine rG 6 ?_ ?_ ?_ ?_ ?_ ?_ hCl hHeld ?_;rotate_left 2
          ·simp only [gA,gS,gZ]; exact rfl
          ·intro l w'; rw [hSSs, hSSs]
          ·rfl
          ·intro w' hA;clear hA;go_simp;try with_reducible rfl
          clear hCl hHeld
          intro hCl hHeld
          simp only [sA,sZ,sS] at hCl hHeld
          (try simp only [Act.put]);try simp only [sA,sZ,sS]
          refine rG 7 ?_ ?_ ?_ ?_ ?_ ?_ hCl hHeld ?_;rotate_left 2
          ·simp only [gA,gS,gZ]; exact rfl
          ·intro l w'; rw [hSSs, hSSs]
          ·rfl
          ·intro w' hA; obtain ⟨l, hl, hi, hSl⟩ := hA; have hSl := (hSSs _ _).1 hSl; obtain ⟨hz0, hz1, hz2, hz3⟩ := hSl; go_simp; try with_reducible rfl
          clear hCl hHeld
          intro hCl hHeld
          simp only [sA,sZ,sS] at hCl hHeld
          (try simp only [Act.put]);try simp only [sA,sZ,sS]
          refine rG 9 ?_ ?_ ?_ ?_ ?_ ?_ hCl hHeld ?_;rotate_left 2
          ·simp only [gA,gS,gZ]; exact rfl
          ·intro l w'; rw [hSSs, hSSs]
          ·rfl
          ·intro w' hA; obtain ⟨l, hl, hi, hSl⟩ := hA; have hSl := (hSSs _ _).1 hSl; obtain ⟨hz0, hz1, hz2, hz3⟩ := hSl; go_simp; try with_reducible rfl
          clear hCl hHeld
          intro hCl hHeld
          simp only [sA,sZ,sS] at hCl hHeld
          (try simp only [Act.put]);try simp only [sA,sZ,sS]
          clear hCl hHeld
          refine reg_callG 8 ?_ (by kernel_rfl) ?_ (fun K hK => ?_);rotate_left 1
          ·simp only [gA,gS,gZ]; exact rfl
          go_simp
          refine HMK.out.mono ?_
          rintro e w8 ⟨tv1, rfl, hm8, mu8⟩
          go_wp2_with fail
          clear c6 d0 d1 d2
          obtain ⟨m8, xo8, xm8, xf8, so8, sm8, sf8, sob8, bu8, j8⟩ := HB6.out.made hPp (by omega) hm8 mu8
          obtain ⟨kq1, kq2⟩ := mu8.keep vb l5 (by omega) (fun e => by have := ltv _ e; omega)
          obtain ⟨gq1, gq2⟩ := mu8.keep g lg6 (by omega) HTGZ.out
          have HGQ1 := Lib.hid gq1; have HGQ2 := Lib.hid gq2; clear gq1 gq2
          have ls8 := mu8.size
          have pv8 := HPV.out.same kq1
          have b68 : Below w.heap.size w w8 := HBW6.out.trans (HB6.out.up.mut mu8 HBW6.out.size)
          have hjn := join_any F (hRev R) opz (tn + k) (ex : Int) (ey : Int) (-1) (ob + 1) gpm w.heap.size ob fb w8 hm8 m8 (HF.out.same (b68.block fb HF.out.lt)) xo8 xm8 xf8 so8 sm8 sf8
           ⟨by have := HF.out.lt; have := hm8.low.1; omega, fun e => by have := HF.out.lt; have := (hm8.row.lt fb e).1; omega, by have := HF.out.lt; have := HB6.out.big; omega⟩ sob8
           (bu8.v (tn + k) _ (by rw [List.reverse_cons, List.getElem?_append_right (by simp [HRL.out])]; simp [HRL.out])) (by omega) (fun i => by have := HPX.out; have := HN9.out; have := HNN.out; unfold at3; split <;> omega)
           (fun t' i' e he => bu8.lives t' i' e (halfI_sub (i := 0) 3 he)) j8 (by have := HDN.out; rw [← HRL.out]; exact this) (fun i e he => HB6.out.built.fresh i e (by rw [HRL.out]; exact he))
          have c8 := xm8.c0; have e0 := pv8.c0; have e1 := pv8.c1; have e2 := pv8.c2
          have HJN := Lib.hid hjn; have HM8 := Lib.hid hm8; have MU8 := Lib.hid mu8; have HPV8 := Lib.hid pv8; have HO8 := Lib.hid kq2; have B68 := Lib.hid b68
          have l8 : vb < w8.heap.size := pv8.lt
          clear m8 xo8 xm8 xf8 so8 sm8 sf8 sob8 bu8 j8 kq1 kq2 pv8 b68 hjn hm8 mu8
          refine hK.out _ _ ((hSSs _ _).2 ⟨c8, e0, e1, e2⟩) ?_
          clear hK K
          (try simp only [Act.put]);try simp only [sA,sZ,sS]
          refine reg_callG 10 ?_ (by kernel_rfl) ?_ (fun K hK => ?_);rotate_left 1
          ·simp only [gA,gS,gZ]; exact rfl
          go_simp
          refine HJN.out.mono ?_
          rintro e w9 ⟨rfl, hj9⟩
          go_wp2_with fail
          clear c8 e0 e1 e2
          have pv9 : Box w9 vb [.int .i64 (ex : Int), .int .i64 (ey : Int), .int .i64 (-1)] := by
           obtain ⟨-, -, -, -, -, -, -, k9⟩ := hj9
           exact HPV8.out.same (k9.keep vb l8 (by omega) HO8.out (by omega))
          have hg9 : w9.heap[g]? = wq.heap[g]? := by
           obtain ⟨-, -, -, -, -, -, -, k9⟩ := hj9
           exact (k9.keep g (by omega) (by omega) HGQ2.out (by omega)).trans (HGQ1.out.trans HG6.out)
          have hs9 : wq.heap.size ≤ w9.heap.size := by
           obtain ⟨-, -, -, -, -, -, -, k9⟩ := hj9
           have := k9.size; have := HS6.out; omega
          have HG9 := Lib.hid hg9; have HS9 := Lib.hid hs9; have HTG9 := Lib.hid HGQ2.out; clear hg9 hs9
          obtain ⟨hbi9, b69⟩ := HB6.out.next hPp (by omega) HM8.out MU8.out (by rw [HRL.out]; exact hj9) HBW6.out.size
          obtain ⟨S9, op9, hb9⟩ := hbi9
          have c9 := hb9.bm.c0; have f0 := pv9.c0; have f1 := pv9.c1; have f2 := pv9.c2
          have HB9 := Lib.hid hb9; have HBW9 := Lib.hid (HBW6.out.trans b69)
          clear hj9 pv9 b69 hb9
          refine hK.out _ _ ((hSSs _ _).2 ⟨c9, f0, f1, f2⟩) ?_
          clear hK K
          (try simp only [Act.put]);try simp only [sA,sZ,sS]
          refine wpAnyG_done (by kernel_rfl) ?_ _
          refine NoPanic.normal ?_
          clear hSSs SSs
          have htw := HTW.out
          go_wp2
          refine ⟨⟨_, _, _, _, _, _, _, _, _, _, _, _, _, _, _, _, _, _, _, _, _, _, _, ⟨k + 1, by omega, by go_num, ⟨tv1, S9, op9, by rw [HRN.out]; exact HB9.out, HTG9.out⟩, HG9.out, HS9.out, HBW9.out⟩, rfl⟩, ?_⟩
          simp [intOf]; omega
         ·obtain rfl : en = k := by omega
          have htk : E.take en = E := by rw [← HEN.out]; exact List.take_length
          rw [htk] at hbi
          have hop := open_none G.out HEP.out hbi.joined
          subst hop
          have cbm := hbi.bm.c0
          go_wp2
          go_ret
          exact ⟨nmb, rfl, ⟨npb, npc, tvz, Sz, E, hbi.up.mesh, hbi.up.pts, HEP.out, hbi.built, hbi.joined⟩, hbw⟩
       ·obtain ⟨a, b, hab, rfl, hlf6, hlt⟩ := hlf.next HMEM.out hx
        have hen6 := hen w6 rfl rfl
        have hrow6 := hrow.turned ht6 (fun k hk => by have := hrow.lt k hk; omega)
        have hbq6 : Below rb wo w6 := Below.turned hbq ht6 (Nat.le_refl _)
        obtain ⟨w7, hw7, hpe, hb7, hs7⟩ := new_box w6 _ rfl [.int .i64 (a : Int), .int .i64 (b : Int)] 138
        obtain ⟨w8, hw8, hpn, hb8, hs8⟩ := new_box w7 _ rfl [.int .i64 (a : Int), .int .i64 (b : Int)] 138
        have pe0 := hpe.c0; have pe1 := hpe.c1
        have hs6 := ht6.size
        have hb68 : Below w6.heap.size w6 w8 := hb7.trans (hb8.mono hb7.size)
        have hrow8 := hrow6.below hb68
        have hit8 := hit6.below hb68
        have hbq8 : Below rb wo w8 := hbq6.trans (hb68.mono (by omega))
        have hs68 := hb68.size
        have hol := HOL.out; have hbn := HBN.out; have hrbw := HRB.out
        have hobl : ob < rb := by have := HBI2.out.map.lt; omega
        obtain ⟨v1, w9, hrun, rown, hgrow, hkept⟩ := run_append_row (P := Tryz.prog) w8 (rb + 1) 182 182 138 i0 (.agg #[.int .i64 0, .int .i64 0]) 2 16 (by kernel_rfl) HI.out HZ0.out HZ1.out HZ2.out rfl (noWordI2 _ _) _ E.length _ hrow8 ⟨w7.heap.size, 0, none⟩ 1 1 [.int .i64 (a : Int), .int .i64 (b : Int)] (by omega) rfl hpn.news (by intro u hu; simp at hu; rcases hu with rfl | rfl <;> rfl) (noWordI2 _ _) (by unfold maxLen; omega) (by omega) (by omega)
        have hit9 : IterB w9 rb ob (op.map encO) (rest.eraseIdx i) := hit8.block (hgrow.block rb (by omega) (fun e => by have := (hrow8.lt rb e.symm).1; omega)) (hgrow.block ob (by omega) (fun e => by have := (hrow8.lt ob e.symm).1; omega))
        have hbq9 : Below rb wo w9 := hbq8.grown hgrow (by omega) (fun k hk => by have := (hrow8.lt k hk).1; omega)
        have hs9 := hgrow.size
        have FIN := Lib.hid (And.intro rown (And.intro hit9 (And.intro hlf6 (And.intro hbq9 (show rb + 1 ≤ w9.heap.size by omega)))))
        have hlv : lenV v1 = E.length + 1 := rown.lenV
        have hlv0 : lenV bv = E.length := hrow.lenV
        have HLV := Lib.hid hlv; have HLV0 := Lib.hid hlv0
        clear hrow hit hlf hbq hrow6 hit6 hbq6 hb7 hb8 hb68 hrow8 hit8 hbq8 rown hgrow hkept hit9 hbq9 hs6 hs7 hs8 hs68 hs9 hlv hlv0 hol hbn hrbw hobl ht6 hen hx
        go_wp2_with (refine wpList_append_row rfl _ _ 182 rfl rfl rfl hrun ?_)
        have FI := FIN.out
        refine ⟨⟨_, _, _, _, _, _, _, _, _, _, ⟨_, E ++ [(a, b)], _, rfl, by rw [List.length_append, edgCells_app]; exact FI.1, FI.2.1, FI.2.2.1, FI.2.2.2.1, FI.2.2.2.2, by rw [List.length_append]; simp; omega⟩, rfl⟩, ?_⟩
        show op.length - lenV v1 < op.length - lenV bv
        rw [HLV.out, HLV0.out]; omega
 simp only [HAq.out, Act.put, sA,sZ,sS] at stq_1t
 have stq_1f : ∀ (w' : World) (nmb : Nat) (npb : Nat) (npc : Nat) (vtv : Value), Below w.heap.size w w' → Box w' (w.heap.size) [.map (some fb)] → Ats3 w' trb (0 * 3) (.int .i64 (a : Int)) (.int .i64 (b : Int)) (.int .i64 (c : Int)) → PtsC w' sb P → Below w1.heap.size w1 w' → MeshUp 24 37 w' w.heap.size nmb npb npc vtv P (newM (a : Int) (b : Int) (c : Int)) → WWq 3 #[true, true, true, true, true, true, true, true, true, true, true, true, true, true, true, true, true, false, false, false] ((((aq.put (some 33) (.tuple #[.pointer (some ⟨nmb, 0, none⟩), .bool true])).put (some 19) (.tuple #[.pointer (some ⟨nmb, 0, none⟩), .bool true])).put (some 34) (.pointer (some ⟨nmb, 0, none⟩))).put (some 35) (.bool true)) w' := by
  intro w13 nmb npb npc vtv hB_0 pf_0 qt_0 pp_0 hWq_0 hms_0
  rw [HWq.out, HAq.out]
  (try simp only [Act.put]);try simp only [sA,sZ,sS]
  refine reg_all1 17 ?_ (by kernel_rfl) ?_ (fun K hK => ?_)
  rotate_left 1
  ·simp only [gA,gS,gZ]; exact rfl
  ·go_simp
   have hgn : w1.heap.size ≤ w13.heap.size := hWq_0.size
   obtain ⟨w14, hww14, pm_0, hb14, -⟩ := new_box w13 _ rfl [.pointer none] 26
   rw [hww14]
   have hB_1 := hB_0.trans (hb14.mono hB_0.size)
   have pf_1 := pf_0.below hb14
   have qt_1 := qt_0.below hb14
   have pp_1 := pp_0.below hb14
   have hWq_1 := hWq_0.trans (hb14.mono hWq_0.size)
   have hms_1 := hms_0.below hb14
   clear hb14 hB_0 pf_0 qt_0 pp_0 hWq_0 hms_0
   refine hK.out _ _ ⟨qt_1.c0, qt_1.c1, qt_1.c2⟩ (fun hHeld => ?_)
   clear hK K
   (try simp only [Act.put]);try simp only [sA,sZ,sS]
   rw [← HWq.out]
   exact stq_1t _ nmb npb npc vtv w13.heap.size hB_1 pf_1 qt_1 pp_1 hWq_1 hms_1 pm_0 (by omega)
 try simp only [HAq.out, Act.put, sA,sZ,sS] at stq_1f
 have stq_0t : ∀ (w' : World) (gpm : Nat), Below w.heap.size w w' → Box w' (w.heap.size) [.map (some fb)] → Ats3 w' trb (0 * 3) (.int .i64 (a : Int)) (.int .i64 (b : Int)) (.int .i64 (c : Int)) → PtsC w' sb P → Below w1.heap.size w1 w' → Box w' gpm [.pointer none] → w1.heap.size ≤ gpm → WWq 6 #[true, true, true, true, true, true, true, true, true, true, true, true, true, false, false, false, false, true, false, false] (aq.put (some 7) (.pointer (some ⟨gpm, 0, none⟩))) w' := by
  intro w15 gpm hB_0 pf_0 qt_0 pp_0 hWq_0 pm_0 hgpm
  rw [HWq.out, HAq.out]
  (try simp only [Act.put]);try simp only [sA,sZ,sS]
  refine reg_all1 13 ?_ (by kernel_rfl) ?_ (fun K hK => ?_)
  rotate_left 1
  ·simp only [gA,gS,gZ]; exact rfl
  ·go_simp
   refine (New_up w.heap.size sb n sc P _ hB_0.size HNN.out HN0.out HN9.out HPS.out pp_0 a b c HZ.out).mono ?_
   rintro e w16 ⟨nmb, npb, npc, vtv, rfl, hms_0, hb16⟩
   have hB_1 := hB_0.trans (hb16.mono hB_0.size)
   have pf_1 := pf_0.below hb16
   have qt_1 := qt_0.below hb16
   have pp_1 := pp_0.below hb16
   have hWq_1 := hWq_0.trans (hb16.mono hWq_0.size)
   have pm_1 := pm_0.below hb16
   clear hb16 hB_0 pf_0 qt_0 pp_0 hWq_0 pm_0
   go_wp2_with fail
   refine hK.out _ _ ⟨qt_1.c0, qt_1.c1, qt_1.c2⟩ (fun hHeld => ?_)
   clear hK K
   (try simp only [Act.put]);try simp only [sA,sZ,sS]
   refine rU 14 _ _ ?_
   (try simp only [Act.put]);try simp only [sA,sZ,sS]
   refine rU 15 _ _ ?_
   (try simp only [Act.put]);try simp only [sA,sZ,sS]
   refine rU 16 _ _ ?_
   (try simp only [Act.put]);try simp only [sA,sZ,sS]
   rw [← HWq.out]
   exact stq_1t _ nmb npb npc vtv gpm hB_1 pf_1 qt_1 pp_1 hWq_1 hms_0 pm_1 (by omega)
 try simp only [HAq.out, Act.put, sA,sZ,sS] at stq_0t
 have stq_0f : ∀ (w' : World), Below w.heap.size w w' → Box w' (w.heap.size) [.map (some fb)] → Ats3 w' trb (0 * 3) (.int .i64 (a : Int)) (.int .i64 (b : Int)) (.int .i64 (c : Int)) → PtsC w' sb P → Below w1.heap.size w1 w' → WWq 7 #[true, true, true, true, true, true, true, true, true, true, true, true, true, false, false, false, false, false, false, false] aq w' := by
  intro w17 hB_0 pf_0 qt_0 pp_0 hWq_0
  rw [HWq.out, HAq.out]
  (try simp only [Act.put]);try simp only [sA,sZ,sS]
  refine reg_all2 13 17 ?_ ?_ (by kernel_rfl) ?_ ?_ (fun K hK => ?_) (fun K hK => ?_)
  rotate_left 2
  ·simp only [gA,gS,gZ]; exact rfl
  ·simp only [gA,gS,gZ]; exact rfl
  ·go_simp
   refine (New_up w.heap.size sb n sc P _ hB_0.size HNN.out HN0.out HN9.out HPS.out pp_0 a b c HZ.out).mono ?_
   rintro e w18 ⟨nmb, npb, npc, vtv, rfl, hms_0, hb18⟩
   have hB_1 := hB_0.trans (hb18.mono hB_0.size)
   have pf_1 := pf_0.below hb18
   have qt_1 := qt_0.below hb18
   have pp_1 := pp_0.below hb18
   have hWq_1 := hWq_0.trans (hb18.mono hWq_0.size)
   clear hb18 hB_0 pf_0 qt_0 pp_0 hWq_0
   go_wp2_with fail
   refine hK.out _ _ ⟨qt_1.c0, qt_1.c1, qt_1.c2⟩ (fun hHeld => ?_)
   clear hK K
   (try simp only [Act.put]);try simp only [sA,sZ,sS]
   refine rU 14 _ _ ?_
   (try simp only [Act.put]);try simp only [sA,sZ,sS]
   refine rU 15 _ _ ?_
   (try simp only [Act.put]);try simp only [sA,sZ,sS]
   refine rU 16 _ _ ?_
   (try simp only [Act.put]);try simp only [sA,sZ,sS]
   rw [← HWq.out]
   exact stq_1f _ nmb npb npc vtv hB_1 pf_1 qt_1 pp_1 hWq_1 hms_0
  ·go_simp
   have hgn : w1.heap.size ≤ w17.heap.size := hWq_0.size
   obtain ⟨w19, hww19, pm_0, hb19, -⟩ := new_box w17 _ rfl [.pointer none] 26
   rw [hww19]
   have hB_1 := hB_0.trans (hb19.mono hB_0.size)
   have pf_1 := pf_0.below hb19
   have qt_1 := qt_0.below hb19
   have pp_1 := pp_0.below hb19
   have hWq_1 := hWq_0.trans (hb19.mono hWq_0.size)
   clear hb19 hB_0 pf_0 qt_0 pp_0 hWq_0
   refine hK.out _ _ ⟨qt_1.c0, qt_1.c1, qt_1.c2⟩ (fun hHeld => ?_)
   clear hK K
   (try simp only [Act.put]);try simp only [sA,sZ,sS]
   rw [← HWq.out]
   exact stq_0t _ w17.heap.size hB_1 pf_1 qt_1 pp_1 hWq_1 pm_0 (by omega)
 exact stq_0f _ hB_1 pf_1 qt_1 pp_1 hWq_1
end Go.Proofs.YtnabdopnlinklaaGreat
/- The statements' Grid: its points and triangles, place by place; bits; the map of faults. -/
namespace Go.MagM
open Go.RowKit
/-- Bit k of a number, as Go tells it. -/
def bitB (b : Int) (k : Nat) : Bool := bits .and .u32 (b / 2 ^ k) 1 == 1
theorem bits_are (q0 q1 q2 q3 : Bool) : ∃ n : Nat, n < 16 ∧ n.testBit 0 = q0 ∧ n.testBit 1 = q1 ∧ n.testBit 2 = q2 ∧ n.testBit 3 = q3 := by
 refine ⟨(if q0 then 1 else 0) + (if q1 then 2 else 0) + (if q2 then 4 else 0) + (if q3 then 8 else 0), ?_⟩
 cases q0 <;> cases q1 <;> cases q2 <;> cases q3 <;> decide
theorem bits_of (b : Int) : ∃ n : Nat, n < 16 ∧ ∀ k : Nat, k < 4 → bitB b k = n.testBit k := by
 obtain ⟨n, h, h0, h1, h2, h3⟩ := bits_are (bitB b 0) (bitB b 1) (bitB b 2) (bitB b 3)
 refine ⟨n, h, fun k hk => ?_⟩
 obtain rfl | rfl | rfl | rfl : k = 0 ∨ k = 1 ∨ k = 2 ∨ k = 3 := by omega
 ·exact h0.symm
 ·exact h1.symm
 ·exact h2.symm
 ·exact h3.symm
theorem noWordI3 (a b c : Int) : ∀ u ∈ [Value.int .i64 a, .int .i64 b, .int .i64 c], NoWord u := by
 intro u hu; simp at hu; rcases hu with rfl | rfl | rfl <;> exact NoWord.int _
theorem MeshO.low' {p e : TypeId} {w : World} {B B' mb pb pc : Nat} {tv : Value} {P : List (Int × Int)} {S : List TriM} (h : MeshO p e w B mb pb pc tv P S) (hB : B' ≤ B) : MeshO p e w B' mb pb pc tv P S :=
 ⟨h.box, owns_low h.prow hB, owns_low h.row hB, ⟨Nat.le_trans hB h.low.1, h.low.2⟩, h.apart, h.short⟩
theorem BuildEnd.low {p e : TypeId} {F : Int → Int → Bool} {B B' : Nat} {P : List (Int × Int)} {T : List (Nat × Nat × Nat)} {mb : Nat} {w : World} (h : BuildEnd p e F B P T mb w) (hB : B' ≤ B) : BuildEnd p e F B' P T mb w := by
 obtain ⟨pb, pc, tv, S, Bd, h1, h2, h3⟩ := h
 exact ⟨pb, pc, tv, S, Bd, h1.low' hB, Nat.le_trans hB h2, h3⟩
/-- Triples in a row, three cells each. -/
def tr3Cells : List (Nat × Nat × Nat) → List Value
 | [] => []
 | t :: r => .int .i64 (t.1 : Int) :: .int .i64 (t.2.1 : Int) :: .int .i64 (t.2.2 : Int) :: tr3Cells r
theorem tr3_app : ∀ l k, tr3Cells (l ++ k) = tr3Cells l ++ tr3Cells k
 | [], _ => rfl
 | e :: t, k => by simp [tr3Cells, tr3_app t k]
theorem tr3_get : ∀ (l : List (Nat × Nat × Nat)) (i : Nat) (e : Nat × Nat × Nat), l[i]? = some e → (tr3Cells l)[i * 3]? = some (.int .i64 (e.1 : Int)) ∧ (tr3Cells l)[i * 3 + 1]? = some (.int .i64 (e.2.1 : Int)) ∧ (tr3Cells l)[i * 3 + 2]? = some (.int .i64 (e.2.2 : Int))
 | [], _, _, h => by simp at h
 | x :: t, 0, e, h => by simp at h; subst h; exact ⟨rfl, rfl, rfl⟩
 | x :: t, i + 1, e, h => by
  have := tr3_get t i e (by simpa using h)
  rw [show (i + 1) * 3 = i * 3 + 1 + 1 + 1 by omega]
  simpa [tr3Cells] using this
theorem RowN.trIn {w : World} {base g : Nat} {e : TypeId} {n c : Nat} {T : List (Nat × Nat × Nat)} (h : RowN w base e 3 (.slice (some ⟨g, 0, none⟩) n c) n (tr3Cells T)) : TrIn w g (T.map realV) := by
 intro k x y z hk
 rw [List.getElem?_map] at hk
 cases ht : T[k]? with
 | none => rw [ht] at hk; cases hk
 | some t =>
  rw [ht] at hk
  simp only [Option.map_some, Option.some.injEq, realV, Prod.mk.injEq] at hk
  obtain ⟨rfl, rfl, rfl⟩ := hk
  obtain ⟨h0, h1, h2⟩ := tr3_get T k t ht
  have hc := h.cells (g := g) rfl
  exact ⟨hc _ _ h0, hc _ _ h1, hc _ _ h2⟩
theorem RowN.ptsC {w : World} {base g : Nat} {e : TypeId} {n c : Nat} {P : List (Int × Int)} (h : RowN w base e 2 (.slice (some ⟨g, 0, none⟩) n c) n (ptsCells P)) : PtsC w g P :=
 ⟨fun j u hj => by rw [Nat.zero_add]; exact h.cells (g := g) rfl j u hj⟩
end Go.MagM
namespace Go.Proofs.YtnabdopnlinklaaGreat
open Go.RowKit Go.MagM Go.Maps
def gridAt (w h bits : Nat) : Bool := (List.range h).all fun y => (List.range w).all fun x =>
 ((gridT w h bits)[2 * (y * w + x)]? == some (if bits.testBit (y * w + x) then (y * (w + 1) + x, y * (w + 1) + (x + 1), (y + 1) * (w + 1) + (x + 1)) else (y * (w + 1) + (x + 1), (y + 1) * (w + 1) + x, y * (w + 1) + x))) &&
 ((gridT w h bits)[2 * (y * w + x) + 1]? == some (if bits.testBit (y * w + x) then ((y + 1) * (w + 1) + (x + 1), (y + 1) * (w + 1) + x, y * (w + 1) + x) else ((y + 1) * (w + 1) + x, y * (w + 1) + (x + 1), (y + 1) * (w + 1) + (x + 1))))
def turnOne (w h bits : Nat) : Bool := (gridT w h bits).all fun t => turnM (gridP w h) (t.1 : Int) (t.2.1 : Int) (t.2.2 : Int) == 1
def gridMore (w h bits : Nat) : Bool := gridAt w h bits && turnOne w h bits && (gridT w h bits).length == 2 * (w * h) && decide ((borderT (gridT w h bits)).length ≤ 8) && (borderT (gridT w h bits)).all (fun e => decide (e.1 < (gridP w h).length) && decide (e.2 < (gridP w h).length)) && decide (0 < (borderT (gridT w h bits)).length)
def allMore : Bool := [1, 2].all fun w => [1, 2].all fun h => (List.range 16).all fun bits => gridMore w h bits
set_option maxRecDepth 100000 in
theorem all_more : allMore = true := by decide +kernel
theorem grid_more {w h : Nat} (hw : w = 1 ∨ w = 2) (hh : h = 1 ∨ h = 2) {bits : Nat} (hb : bits < 16) : gridMore w h bits = true := by
 have := all_more
 unfold allMore at this
 rw [List.all_eq_true] at this
 have h1 := this w (by rcases hw with rfl | rfl <;> simp)
 rw [List.all_eq_true] at h1
 have h2 := h1 h (by rcases hh with rfl | rfl <;> simp)
 rw [List.all_eq_true] at h2
 exact h2 bits (List.mem_range.2 hb)
structure GridMore (w h bits : Nat) : Prop where
 even : ∀ y x, y < h → x < w → (gridT w h bits)[2 * (y * w + x)]? = some (if bits.testBit (y * w + x) then (y * (w + 1) + x, y * (w + 1) + (x + 1), (y + 1) * (w + 1) + (x + 1)) else (y * (w + 1) + (x + 1), (y + 1) * (w + 1) + x, y * (w + 1) + x))
 odd : ∀ y x, y < h → x < w → (gridT w h bits)[2 * (y * w + x) + 1]? = some (if bits.testBit (y * w + x) then ((y + 1) * (w + 1) + (x + 1), (y + 1) * (w + 1) + x, y * (w + 1) + x) else ((y + 1) * (w + 1) + x, y * (w + 1) + (x + 1), (y + 1) * (w + 1) + (x + 1)))
 one : ∀ t, t ∈ gridT w h bits → turnM (gridP w h) (t.1 : Int) (t.2.1 : Int) (t.2.2 : Int) = 1
 len : (gridT w h bits).length = 2 * (w * h)
 few : (borderT (gridT w h bits)).length ≤ 8
 ends : ∀ e, e ∈ borderT (gridT w h bits) → e.1 < (gridP w h).length ∧ e.2 < (gridP w h).length
 some_ : 0 < (borderT (gridT w h bits)).length
theorem grid_has {w h : Nat} (hw : w = 1 ∨ w = 2) (hh : h = 1 ∨ h = 2) {bits : Nat} (hb : bits < 16) : GridMore w h bits := by
 have s := grid_more hw hh hb
 unfold gridMore gridAt turnOne at s
 simp only [Bool.and_eq_true, decide_eq_true_eq, List.all_eq_true, beq_iff_eq, List.mem_range] at s
 obtain ⟨⟨⟨⟨⟨s1, s2⟩, s3⟩, s4⟩, s5⟩, s6⟩ := s
 exact ⟨fun y x hy hx => (s1 y hy x hx).1, fun y x hy hx => (s1 y hy x hx).2, s2, s3, s4, s5, s6⟩
theorem gridP_at {w h : Nat} (hw : w = 1 ∨ w = 2) (hh : h = 1 ∨ h = 2) {x y : Nat} (hx : x ≤ w) (hy : y ≤ h) : (gridP w h)[y * (w + 1) + x]? = some (2 * (x : Int), 2 * (y : Int)) := by
 have hx' : x = 0 ∨ x = 1 ∨ x = 2 := by omega
 have hy' : y = 0 ∨ y = 1 ∨ y = 2 := by omega
 rcases hw with rfl | rfl <;> rcases hh with rfl | rfl <;> rcases hx' with rfl | rfl | rfl <;> rcases hy' with rfl | rfl | rfl <;> first | rfl | omega
theorem grid_inPs {w h : Nat} (hw : w = 1 ∨ w = 2) (hh : h = 1 ∨ h = 2) : InPs (gridP w h) := by
 intro p hp
 have := (grid_ok hw hh (bits := 0) (by omega)).small p hp
 unfold InP; omega
theorem infoE3 : (Tryz.prog.info? 34).map (fun i => (i.zero, i.size, i.bytes)) = some (some (.agg #[.int .i64 0, .int .i64 0, .int .i64 0]), 3, 24) := by kernel_rfl
/-- A fault more. -/
theorem fault_store {w : World} {fb : Nat} {F : Int → Int → Bool} (h : FaultMap Tryz.prog 138 w fb F) {a b : Int} (ha : -1000000 ≤ a ∧ a ≤ 1000000) (hb : -1000000 ≤ b ∧ b ≤ 1000000) :
  ∃ w' F', (Instr.mapUpdate 137 (.map (some fb)) (.agg #[.int .i64 a, .int .i64 b]) (.int .i64 1)).run Tryz.prog w = .ok () w' ∧ Turned w w' fb ∧ FaultMap Tryz.prog 138 w' fb F' := by
 obtain ⟨m, h1, h2, h3⟩ := h
 obtain ⟨l, hl⟩ := key2_of ha hb
 obtain ⟨w', m', hr, ht, hm, hc⟩ := h1.store keyed2 Tryz.underlying137 hl (.int .i64 1)
 rcases hc with ⟨hno, rfl⟩ | ⟨j, u, hj, rfl⟩
 ·refine ⟨w', fun c d => F c d || decide (c = a ∧ d = b), hr, ht, _, hm, fun e he => ?_, fun c d hF => ?_⟩
  ·rcases List.mem_append.1 he with he | he
   ·obtain ⟨c, d, e1, hF⟩ := h2 e he
    exact ⟨c, d, e1, by show (F c d || _) = true; rw [hF]; rfl⟩
   ·simp only [List.mem_cons, List.not_mem_nil, or_false] at he
    exact ⟨a, b, he, by simp⟩
  ·simp only [Bool.or_eq_true, decide_eq_true_eq] at hF
   rcases hF with hF | ⟨rfl, rfl⟩
   ·exact List.mem_append_left _ (h3 c d hF)
   ·exact List.mem_append_right _ (by simp [key2])
 ·obtain ⟨c, d, e1, hF⟩ := h2 _ (List.mem_of_getElem? hj)
  simp only [Prod.mk.injEq] at e1
  obtain ⟨e1, rfl⟩ := e1
  have hset : m.set j (.agg #[.int .i64 a, .int .i64 b], .int .i64 1) = m := by
   refine List.ext_getElem? fun i => ?_
   rw [List.getElem?_set]
   split
   ·rename_i hij; subst hij
    rw [if_pos (List.getElem?_eq_some_iff.1 hj).1, hj]
   ·rfl
  rw [hset] at hm
  exact ⟨w', F, hr, ht, m, hm, h2, h3⟩
theorem fault_new {w : World} {fb : Nat} (h : MapB Tryz.prog 138 w fb []) : FaultMap Tryz.prog 138 w fb (fun _ _ => false) :=
 ⟨[], h, fun e he => (by cases he), fun a b hF => (by cases hF)⟩
set_option maxRecDepth 100000 in
set_option maxHeartbeats 4000000 in
/-- The number of a place in a grid. -/
theorem gridNo_any (g W : Nat) (x y : Nat) (w : World) (hW : W ≤ 2) (hx : x ≤ 2) (hy : y ≤ 2) (hg : w.cell? ⟨g, 0, none⟩ = some (.int .i64 (W : Int))) (r : Int) (hr : (y : Int) * ((W : Int) + 1) + (x : Int) = r) :
  Calls Tryz.prog 84 #[.int .i64 (x : Int), .int .i64 (y : Int), .pointer (some ⟨g, 0, none⟩)] w fun e w' => e = .returned (.int .i64 r) ∧ w = w' := by
 obtain ⟨p, hp⟩ : ∃ p, (y : Int) * ((W : Int) + 1) = p := ⟨_, rfl⟩
 have hp1 : 0 ≤ p ∧ p ≤ 6 := by
  have hy' : y = 0 ∨ y = 1 ∨ y = 2 := by omega
  rcases hy' with rfl | rfl | rfl <;> omega
 rw [hp] at hr
 have h1 : IntKind.i64.wrap ((W : Int) + 1) = (W : Int) + 1 := by rw [IntKind.wrap_i64]; omega
 have h2 : IntKind.i64.wrap p = p := by rw [IntKind.wrap_i64]; omega
 have h3 : IntKind.i64.wrap (p + (x : Int)) = r := by rw [IntKind.wrap_i64]; omega
 clear hr hp1
 go_enter Tryz.func84, Tryz.ntmps84
 go_wp2
 go_ret
 exact ⟨rfl, rfl⟩
end Go.Proofs.YtnabdopnlinklaaGreat
/- cavity's corners. -/
namespace Go.MagM
open Go.RowKit
theorem box3v {w : World} {g : Nat} {T : TriM} (h : Box w g [.int .i64 T.v0, .int .i64 T.v1, .int .i64 T.v2]) {k : Nat} (hk : k < 3) : w.cell? ⟨g, k, none⟩ = some (.int .i64 (T.v k)) := by
 obtain rfl | rfl | rfl : k = 0 ∨ k = 1 ∨ k = 2 := by omega
 ·exact h.c 0 _ rfl
 ·exact h.c 1 _ rfl
 ·exact h.c 2 _ rfl
theorem mod3_sum {f k : Nat} (hf : f ≤ 3) (hk : k < 3) : (IntKind.i64.wrap ((f : Int) + (k : Int))).tmod 3 = (((f + k) % 3 : Nat) : Int) := by
 obtain rfl | rfl | rfl | rfl : f = 0 ∨ f = 1 ∨ f = 2 ∨ f = 3 := by omega
 all_goals (obtain rfl | rfl | rfl : k = 0 ∨ k = 1 ∨ k = 2 := by omega)
 all_goals decide
theorem cors_le (P : List (Int × Int)) (T : TriM) : (cors P T).length ≤ 3 := corsN_le P T 3
end Go.MagM
namespace Go.Proofs.YtnabdopnlinklaaGreat
open Go.RowKit Go.MagM
set_option maxRecDepth 100000 in
set_option maxHeartbeats 8000000 in
theorem cvCorners_any {mb pb pc : Nat} {ta : Option Addr} {tc : Nat} {P : List (Int × Int)} {S : List TriM} (t : Nat) (T : TriM) (w : World) (h : MeshR w mb pb pc ta tc P S) (hT : S[t]? = some T) :
  Calls Tryz.prog 58 #[.pointer (some ⟨mb, 0, none⟩), .int .i64 (t : Int)] w fun e w' => ∃ v, e = .returned v ∧ RowN w' (w.heap.size + 1) 24 2 v (cors P T).length (ptsCells (cors P T)) ∧ Below w.heap.size w w' := by
 have hsh := h.short
 have hlt := (List.getElem?_eq_some_iff.1 hT).1
 obtain ⟨len, hlen⟩ : ∃ len, S.length = len := ⟨_, rfl⟩
 obtain ⟨pn, hpn⟩ : ∃ pn, P.length = pn := ⟨_, rfl⟩
 have q1 : decide ((t : Int) < 0) = false := decide_eq_false (by omega)
 have q2 : decide ((len : Int) ≤ (t : Int)) = false := decide_eq_false (by omega)
 have q3 : decide (len ≤ t) = false := decide_eq_false (by omega)
 have i1 : (0 : Int) ≤ (t : Int) := by omega
 have i2 : (t : Int) < (len : Int) := by omega
 have b1 := h.box.c1
 rw [hlen] at b1 hsh hlt
 rw [hpn] at hsh
 obtain ⟨tb, hta, -, h9⟩ := h.tris.get hT
 subst hta
 obtain ⟨c0, c1, c2, c3, c4, c5, c6, c7, c8⟩ := h9
 obtain ⟨i0, hi, hz0, hz1, hz2⟩ := info_parts infoPt
 have HI := Lib.hid hi; have HZ0 := Lib.hid hz0; have HZ1 := Lib.hid hz1; have HZ2 := Lib.hid hz2
 clear hi hz0 hz1 hz2
 obtain ⟨w1, hw1, hp, hb1, hs1⟩ := new_box w _ rfl [.int .i64 T.v0, .int .i64 T.v1, .int .i64 T.v2] 34
 obtain ⟨r, hr⟩ : ∃ r : Int, placeT T (-1) = r := ⟨_, rfl⟩
 obtain ⟨f, hf⟩ : ∃ f, corF T = f := ⟨_, rfl⟩
 have hfr : IntKind.i64.wrap (r + 1) = (f : Int) := by
  rw [← hf, ← hr]; unfold corF; rcases placeT_cases T (-1) with e | e | e | e <;> rw [e] <;> decide
 have hf3 : f ≤ 3 := hf ▸ corF_lt T
 have HIX := Lib.hid (show Calls Tryz.prog 81 #[.slice (some ⟨w.heap.size, 0, none⟩) 3 3, .int .i64 (-1)] w1 fun e w' => e = .returned (.int .i64 r) ∧ w1 = w' from by
  have := index_any w.heap.size 0 3 3 [T.v0, T.v1, T.v2] (-1) w1 rfl (by omega) (fun j v hj => by
   obtain ⟨hl, -⟩ := List.getElem?_eq_some_iff.1 hj
   have hj3 : j < 3 := by simpa using hl
   obtain rfl | rfl | rfl : j = 0 ∨ j = 1 ∨ j = 2 := by omega
   ·cases hj; exact hp.c 0 _ rfl
   ·cases hj; exact hp.c 1 _ rfl
   ·cases hj; exact hp.c 2 _ rfl)
  rw [place_idx, hr] at this; exact this)
 have H := Lib.hid (h.below hb1); have HT := Lib.hid hT; have HPN := Lib.hid hpn; have HR := Lib.hid hr; have HF := Lib.hid hf
 have HP := Lib.hid hp; have HB1 := Lib.hid hb1
 have HS1 := Lib.hid (show w1.heap.size = w.heap.size + 1 from by omega)
 have HF3 := Lib.hid hf3
 clear h hT hlen hpn hr hf hp hb1 hs1 hf3
 go_enter Tryz.func58, Tryz.ntmps58
 go_wp2_with fail
 refine HIX.out.mono ?_
 rintro e w2 ⟨rfl, rfl⟩
 clear b1 c0 c1 c2 c3 c4 c5 c6 c7 c8 hw1 i1 i2
 go_wp2
 clear hfr
 go_loopw [7, 32] (fun pv iv wr => ∃ (k : Nat) (vv : Value), k ≤ 3 ∧ iv = .int .i64 (k : Int) ∧ vv = pv ∧ RowN wr (w.heap.size + 1) 24 2 vv (corsN P T k).length (ptsCells (corsN P T k)) ∧ Box wr w.heap.size [.int .i64 T.v0, .int .i64 T.v1, .int .i64 T.v2] ∧ Below w1.heap.size w1 wr ∧ Below w.heap.size w wr) (fun _ iv _ => 3 - (intOf iv).toNat)
 case atStart => exact ⟨0, _, Nat.zero_le _, rfl, rfl, RowN.nil _ _ _ _, HP.out, Below.refl _ _, HB1.out⟩
 case round =>
  obtain ⟨k, vv, hk, rfl, rfl, hrow, hbx, hbo, hbw⟩ := hrel
  by_cases hlt3 : k < 3
  ·have hj : (f + k) % 3 < 3 := Nat.mod_lt _ (by omega)
   have hm := mod3_sum HF3.out hlt3
   obtain ⟨j, hje⟩ : ∃ j, (f + k) % 3 = j := ⟨_, rfl⟩
   rw [hje] at hj hm
   have hm2 : (wrap64 ((f : Int) + (k : Int))).tmod 3 = (j : Int) := by rw [← IntWalk.i64_left]; exact hm
   obtain ⟨x, hx⟩ : ∃ x, T.v j = x := ⟨_, rfl⟩
   have y1 := box3v hbx hj
   rw [hx] at y1
   have HST := Lib.hid (show corsN P T (k + 1) = corsN P T k ++ corK P T j by rw [corsN, HF.out, hje])
   have j1 : (0 : Int) ≤ (j : Int) := by omega
   have j2 : (j : Int) < 3 := by omega
   have hr_0 := H.out.below hbo
   have b0 := hr_0.box.c 0 _ rfl
   rw [HPN.out] at b0
   have HX := Lib.hid hx
   clear hje hx hj
   by_cases hx0 : 0 ≤ x
   ·obtain ⟨a, rfl⟩ := Int.eq_ofNat_of_zero_le hx0
    have g1 : decide (0 ≤ (a : Int)) = true := decide_eq_true (by omega)
    by_cases hap : a < pn
    ·have g2 : decide ((a : Int) < (pn : Int)) = true := decide_eq_true (by omega)
     have g3 : decide (a < pn) = true := decide_eq_true hap
     have j4 : (a : Int) < (pn : Int) := by omega
     have hck : corK P T j = [ptA P a] := by unfold corK ptT; rw [HX.out, HPN.out, if_pos ⟨hx0, j4⟩]; rfl
     obtain ⟨⟨px, py⟩, hpa⟩ : ∃ q, ptA P a = q := ⟨_, rfl⟩
     have hat := ptA_at (P := P) (v := a) (by rw [HPN.out]; exact hap)
     rw [hpa] at hat hck
     obtain ⟨d0, d1⟩ := hr_0.pt hat
     obtain ⟨w3, hw3, pz, hb3, hs3⟩ := new_box wr _ rfl [.int .i64 px, .int .i64 py] 24
     have hrow3 := hrow.below hb3
     have hbx3 := hbx.below hb3
     have hbw3 := hbw.trans (hb3.mono hbw.size)
     have hbo3 := hbo.trans (hb3.mono hbo.size)
     have hcl := corsN_le P T k
     have hz1 := HS1.out
     have hz2 := hbo.size
     obtain ⟨v1, w4, hrun, rown, hgrow, hkept⟩ := run_append_row (P := Tryz.prog) w3 (w.heap.size + 1) 38 38 24 i0 (.agg #[.int .i64 0, .int .i64 0]) 2 16 (by kernel_rfl) HI.out HZ0.out HZ1.out HZ2.out rfl (noWordI2 _ _) _ (corsN P T k).length _ hrow3 ⟨wr.heap.size, 0, none⟩ 1 1 [.int .i64 px, .int .i64 py] (by omega) rfl pz.news (by intro u hu; simp at hu; rcases hu with rfl | rfl <;> rfl) (noWordI2 _ _) (by unfold maxLen; omega) (by omega) (by omega)
     have hne : ∀ g, vv.ownBlock = some g → w.heap.size + 1 ≤ g := fun g hg => (hrow3.lt g hg).1
     have hbx4 := hbx3.grown hgrow (fun e => by have := hne _ e; omega) hbx3.lt
     have hbw4 : Below w.heap.size w w4 := hbw3.grown hgrow (by omega) (fun g hg => by have := hne g hg; omega)
     have hbo4 : Below w1.heap.size w1 w4 := hbo3.grown hgrow (by omega) (fun g hg => by have := hne g hg; omega)
     have rown2 : RowN w4 (w.heap.size + 1) 24 2 v1 (corsN P T (k + 1)).length (ptsCells (corsN P T (k + 1))) := by
      rw [HST.out, hck, List.length_append, ptsCells_app]; exact rown
     have FIN := Lib.hid (And.intro rown2 (And.intro hbx4 (And.intro hbo4 hbw4)))
     clear hrow hbx hbo hbw hr_0 pz hb3 hs3 hrow3 hbx3 hbw3 hbo3 rown hgrow hkept hne hbx4 hbw4 hbo4 rown2 hcl hat hck hz1 hz2
     go_wp2_with (refine wpList_append_row rfl _ _ 38 rfl rfl rfl hrun ?_)
     have FI := FIN.out
     exact ⟨⟨k + 1, _, by omega, by go_num, rfl, FI.1, FI.2.1, FI.2.2.1, FI.2.2.2⟩, by simp [intOf]; omega⟩
    ·have g2 : decide ((a : Int) < (pn : Int)) = false := decide_eq_false (by omega)
     have g3 : decide (a < pn) = false := decide_eq_false hap
     have HNO := Lib.hid (show corK P T j = [] by unfold corK; rw [HX.out, HPN.out, if_neg (by omega)])
     have FIN := Lib.hid (And.intro hrow (And.intro hbx (And.intro hbo hbw)))
     clear hrow hbx hbo hbw hr_0
     go_wp2
     have FI := FIN.out
     refine ⟨⟨k + 1, _, by omega, by go_num, rfl, ?_, FI.2.1, FI.2.2.1, FI.2.2.2⟩, by simp [intOf]; omega⟩
     rw [HST.out, HNO.out, List.append_nil]; exact FI.1
   ·have g1 : decide (0 ≤ x) = false := decide_eq_false hx0
    have HNO := Lib.hid (show corK P T j = [] by unfold corK; rw [HX.out, if_neg (by omega)])
    have FIN := Lib.hid (And.intro hrow (And.intro hbx (And.intro hbo hbw)))
    clear hrow hbx hbo hbw hr_0
    go_wp2
    have FI := FIN.out
    refine ⟨⟨k + 1, _, by omega, by go_num, rfl, ?_, FI.2.1, FI.2.2.1, FI.2.2.2⟩, by simp [intOf]; omega⟩
    rw [HST.out, HNO.out, List.append_nil]; exact FI.1
  ·obtain rfl : k = 3 := by omega
   have FIN := Lib.hid (And.intro hrow hbw)
   clear hrow hbx hbo hbw
   go_wp2
   go_ret
   exact ⟨_, rfl, FIN.out.1, FIN.out.2⟩
end Go.Proofs.YtnabdopnlinklaaGreat
/- Sums of two and three, and of none. -/
namespace Go.Proofs.YtnabdopnlinklaaGreat
open Go.RowKit Go.MagM
theorem sum_three (ao : Option Addr) (c L1 L2 L3 : Nat) (X Y Z : Int) (w : World) (h1 : L1 ≤ 1000000000) (h2 : L2 ≤ 1000000000) (h3 : L3 ≤ 1000000000) (h : Nums w ao [(L1, X), (L2, Y), (L3, Z)]) :
    Calls Tryz.prog 78 #[.slice ao 3 c] w fun e w' => AnsNum w w' e (max L1 (max L2 L3) + 3) (X + Y + Z) := by
  refine (Sum_go ao 3 c _ w rfl (by omega) (fun L Z hm => ?_) h).mono fun e w' g => g.of ?_ ?_
  · simp at hm; omega
  · simp [sumLen]; omega
  · simp [sumVal, Int.add_assoc]
theorem Nums.drew {w : World} {ao : Option Addr} {l : List (Nat × Int)} (h : Nums w ao l) : Nums w.drew ao l := h
end Go.Proofs.YtnabdopnlinklaaGreat
/- The calls of pred: Circle. -/
namespace Go.Proofs.YtnabdopnlinklaaGreat
open Go.RowKit Go.MagM
theorem nums3_box {w : World} {g : Nat} {L1 L2 L3 : Nat} {X Y Z : Int} {m1 m2 m3 : Bool} {o1 o2 o3 : Option Addr} {n1 c1 n2 c2 n3 c3 : Nat} (h : Box w g [.bool m1, .slice o1 n1 c1, .bool m2, .slice o2 n2 c2, .bool m3, .slice o3 n3 c3])
  (h1 : Num w (.agg #[.bool m1, .slice o1 n1 c1]) L1 X) (h2 : Num w (.agg #[.bool m2, .slice o2 n2 c2]) L2 Y) (h3 : Num w (.agg #[.bool m3, .slice o3 n3 c3]) L3 Z) :
  Nums w (some ⟨g, 0, none⟩) [(L1, X), (L2, Y), (L3, Z)] := by
 intro i L Z hi
 have hi2 : i < 3 := by have := (List.getElem?_eq_some_iff.1 hi).1; simpa using this
 obtain rfl | rfl | rfl : i = 0 ∨ i = 1 ∨ i = 2 := by omega
 ·simp at hi; obtain ⟨rfl, rfl⟩ := hi
  exact ⟨_, 0, m1, o1, n1, c1, rfl, h.c0, h.c1, h1⟩
 ·simp at hi; obtain ⟨rfl, rfl⟩ := hi
  exact ⟨_, 0, m2, o2, n2, c2, rfl, h.c2, h.c3, h2⟩
 ·simp at hi; obtain ⟨rfl, rfl⟩ := hi
  exact ⟨_, 0, m3, o3, n3, c3, rfl, h.c4, h.c5, h3⟩
theorem Sign_named (va : Value) (L : Nat) (X s : Int) (w : World) (hL : L ≤ 4000000000) (ha : Num w va L X) (h : X.sign = s) :
  Calls Tryz.prog 66 #[va] w fun e w' => e = .returned (.int .i64 s) ∧ Below w.heap.size w w' := by
 subst h; exact Sign_any va L X w hL ha
theorem Cmp_named (va vb : Value) (L L' : Nat) (X Y s : Int) (w : World) (hL : L ≤ 4000000000) (hL' : L' ≤ 4000000000) (ha : Num w va L X) (hb : Num w vb L' Y) (h : icmp X Y = s) :
  Calls Tryz.prog 24 #[va, vb] w fun e w' => e = .returned (.int .i64 s) ∧ Below w.heap.size w w' := by
 subst h; exact nCmp_any va vb L L' X Y w hL hL' ha hb
set_option maxHeartbeats 16000000 in
theorem Circle_w (a0 a1 b0 b1 v0 v1 u0 u1 : Int) (D0 A0 D1 A1 D2 A2 t : Int) (k0 : ∀ w, Calls Tryz.prog 80 #[.agg #[.int .i64 a0, .int .i64 a1], .agg #[.int .i64 u0, .int .i64 u1]] w fun e w' => AnsNum w w' e 2 D0) (k1 : ∀ w, Calls Tryz.prog 23 #[.agg #[.int .i64 u0, .int .i64 u1], .agg #[.int .i64 b0, .int .i64 b1], .agg #[.int .i64 v0, .int .i64 v1]] w fun e w' => AnsNum w w' e 2 A0) (k3 : ∀ w, Calls Tryz.prog 80 #[.agg #[.int .i64 b0, .int .i64 b1], .agg #[.int .i64 u0, .int .i64 u1]] w fun e w' => AnsNum w w' e 2 D1) (k4 : ∀ w, Calls Tryz.prog 23 #[.agg #[.int .i64 u0, .int .i64 u1], .agg #[.int .i64 v0, .int .i64 v1], .agg #[.int .i64 a0, .int .i64 a1]] w fun e w' => AnsNum w w' e 2 A1) (k6 : ∀ w, Calls Tryz.prog 80 #[.agg #[.int .i64 v0, .int .i64 v1], .agg #[.int .i64 u0, .int .i64 u1]] w fun e w' => AnsNum w w' e 2 D2) (k7 : ∀ w, Calls Tryz.prog 23 #[.agg #[.int .i64 u0, .int .i64 u1], .agg #[.int .i64 a0, .int .i64 a1], .agg #[.int .i64 b0, .int .i64 b1]] w fun e w' => AnsNum w w' e 2 A2) (ht : (D0 * A0 + D1 * A1 + D2 * A2).sign = t) (w : World) :
  Calls Tryz.prog 32 #[.agg #[.int .i64 a0, .int .i64 a1], .agg #[.int .i64 b0, .int .i64 b1], .agg #[.int .i64 v0, .int .i64 v1], .agg #[.int .i64 u0, .int .i64 u1]] w fun e w' => e = .returned (.int .i64 t) ∧ Below w.heap.size w w' := by
 have hB_0 := Below.refl w.heap.size w
 have K0 := Lib.hid k0; have K1 := Lib.hid k1; have K3 := Lib.hid k3; have K4 := Lib.hid k4; have K6 := Lib.hid k6; have K7 := Lib.hid k7; have HT := Lib.hid ht
 clear k0 k1 k3 k4 k6 k7 ht
 obtain ⟨w1, hw1, pa_0, hb1, hs1⟩ := new_box w (w.heap.size) rfl [.int .i64 a0, .int .i64 a1] 24
 have hb1' : Below w.heap.size w w1 := hb1.mono (by omega)
 clear hb1
 have hB_1 := hB_0.trans (hb1'.mono hB_0.size)
 clear hb1' hB_0
 obtain ⟨w2, hw2, pb_0, hb2, hs2⟩ := new_box w1 (w.heap.size + 1) hs1 [.int .i64 b0, .int .i64 b1] 24
 have hb2' : Below w1.heap.size w1 w2 := hb2.mono (by omega)
 clear hb2
 have hB_2 := hB_1.trans (hb2'.mono hB_1.size)
 have pa_1 := pa_0.below hb2'
 clear hb2' hB_1 pa_0
 obtain ⟨w3, hw3, pv_0, hb3, hs3⟩ := new_box w2 (w.heap.size + 1 + 1) hs2 [.int .i64 v0, .int .i64 v1] 24
 have hb3' : Below w2.heap.size w2 w3 := hb3.mono (by omega)
 clear hb3
 have hB_3 := hB_2.trans (hb3'.mono hB_2.size)
 have pa_2 := pa_1.below hb3'
 have pb_1 := pb_0.below hb3'
 clear hb3' hB_2 pa_1 pb_0
 obtain ⟨w4, hw4, pu_0, hb4, hs4⟩ := new_box w3 (w.heap.size + 1 + 1 + 1) hs3 [.int .i64 u0, .int .i64 u1] 24
 have hb4' : Below w3.heap.size w3 w4 := hb4.mono (by omega)
 clear hb4
 have hB_4 := hB_3.trans (hb4'.mono hB_3.size)
 have pa_3 := pa_2.below hb4'
 have pb_2 := pb_1.below hb4'
 have pv_1 := pv_0.below hb4'
 clear hb4' hB_3 pa_2 pb_1 pv_0
 go_enter Tryz.func32, Tryz.ntmps32
 obtain ⟨pae0, pae1, pae2, pae3⟩ := pa_3.open2
 obtain ⟨pbe0, pbe1, pbe2, pbe3⟩ := pb_2.open2
 obtain ⟨pve0, pve1, pve2, pve3⟩ := pv_1.open2
 obtain ⟨pue0, pue1, pue2, pue3⟩ := pu_0.open2
 go_wp2
 clear pae0 pae1 pae2 pae3 pbe0 pbe1 pbe2 pbe3 pve0 pve1 pve2 pve3 pue0 pue1 pue2 pue3
 have hWq_0 := Below.refl w4.heap.size w4
 have hsq : w.heap.size ≤ w4.heap.size := hB_4.size
 have hlqpa := pa_3.lt
 have hlqpb := pb_2.lt
 have hlqpv := pv_1.lt
 have hlqpu := pu_0.lt
 have hB_5 := hB_4.drew'
 have pa_4 := pa_3.drew
 have pb_3 := pb_2.drew
 have pv_2 := pv_1.drew
 have pu_1 := pu_0.drew
 have hWq_1 := hWq_0.drew'
 clear hB_4 pa_3 pb_2 pv_1 pu_0 hWq_0
 refine wp_region_noPanic ?_
 refine wp_region_held_drew (S := fun w' => w'.cell? ⟨w.heap.size, 0, none⟩ = some (.int .i64 a0) ∧ w'.cell? ⟨w.heap.size, 1, none⟩ = some (.int .i64 a1) ∧ w'.cell? ⟨w.heap.size + 1, 0, none⟩ = some (.int .i64 b0) ∧ w'.cell? ⟨w.heap.size + 1, 1, none⟩ = some (.int .i64 b1) ∧ w'.cell? ⟨w.heap.size + 1 + 1, 0, none⟩ = some (.int .i64 v0) ∧ w'.cell? ⟨w.heap.size + 1 + 1, 1, none⟩ = some (.int .i64 v1) ∧ w'.cell? ⟨w.heap.size + 1 + 1 + 1, 0, none⟩ = some (.int .i64 u0) ∧ w'.cell? ⟨w.heap.size + 1 + 1 + 1, 1, none⟩ = some (.int .i64 u1)) (by kernel_rfl) (⟨pa_4.c0, pa_4.c1, pb_3.c0, pb_3.c1, pv_2.c0, pv_2.c1, pu_1.c0, pu_1.c1⟩) (fun hHeld => ?_)
 refine rU 0 _ _ ?_
 (try simp only [Act.put]);try simp only [sA,sZ,sS]
 refine rU 1 _ _ ?_
 (try simp only [Act.put]);try simp only [sA,sZ,sS]
 refine rU 3 _ _ ?_
 (try simp only [Act.put]);try simp only [sA,sZ,sS]
 refine rU 4 _ _ ?_
 (try simp only [Act.put]);try simp only [sA,sZ,sS]
 refine rU 5 _ _ ?_
 (try simp only [Act.put]);try simp only [sA,sZ,sS]
 refine rU 8 _ _ ?_
 (try simp only [Act.put]);try simp only [sA,sZ,sS]
 refine rU 9 _ _ ?_
 (try simp only [Act.put]);try simp only [sA,sZ,sS]
 refine rU 11 _ _ ?_
 (try simp only [Act.put]);try simp only [sA,sZ,sS]
 refine rU 12 _ _ ?_
 (try simp only [Act.put]);try simp only [sA,sZ,sS]
 refine rU 13 _ _ ?_
 (try simp only [Act.put]);try simp only [sA,sZ,sS]
 refine rU 16 _ _ ?_
 (try simp only [Act.put]);try simp only [sA,sZ,sS]
 refine rU 17 _ _ ?_
 (try simp only [Act.put]);try simp only [sA,sZ,sS]
 refine rU 19 _ _ ?_
 (try simp only [Act.put]);try simp only [sA,sZ,sS]
 refine rU 20 _ _ ?_
 (try simp only [Act.put]);try simp only [sA,sZ,sS]
 refine rU 21 _ _ ?_
 (try simp only [Act.put]);try simp only [sA,sZ,sS]
 refine reg_grab (fun WWq aq hWW hAA => ?_)
 have HWq := Lib.hid hWW; have HAq := Lib.hid hAA; clear hWW hAA hHeld
 have stq_11t : ∀ (w' : World) (m1 : Bool) (o1 : Option Addr) (n1 : Nat) (c1 : Nat) (m2 : Bool) (o2 : Option Addr) (n2 : Nat) (c2 : Nat) (m3 : Bool) (o3 : Option Addr) (n3 : Nat) (c3 : Nat) (m4 : Bool) (o4 : Option Addr) (n4 : Nat) (c4 : Nat) (m5 : Bool) (o5 : Option Addr) (n5 : Nat) (c5 : Nat) (m6 : Bool) (o6 : Option Addr) (n6 : Nat) (c6 : Nat) (m7 : Bool) (o7 : Option Addr) (n7 : Nat) (c7 : Nat) (m8 : Bool) (o8 : Option Addr) (n8 : Nat) (c8 : Nat) (m9 : Bool) (o9 : Option Addr) (n9 : Nat) (c9 : Nat) (m10 : Bool) (o10 : Option Addr) (n10 : Nat) (c10 : Nat) (gpq : Nat), Below w.heap.size w w' → Box w' (w.heap.size) [.int .i64 a0, .int .i64 a1] → Box w' (w.heap.size + 1) [.int .i64 b0, .int .i64 b1] → Box w' (w.heap.size + 1 + 1) [.int .i64 v0, .int .i64 v1] → Box w' (w.heap.size + 1 + 1 + 1) [.int .i64 u0, .int .i64 u1] → Below w4.heap.size w4 w' → RNum w' (.agg #[.bool m1, .slice o1 n1 c1]) (2) (D0) → RNum w' (.agg #[.bool m2, .slice o2 n2 c2]) (2) (A0) → RNum w' (.agg #[.bool m3, .slice o3 n3 c3]) (4) (D0 * A0) → RNum w' (.agg #[.bool m4, .slice o4 n4 c4]) (2) (D1) → RNum w' (.agg #[.bool m5, .slice o5 n5 c5]) (2) (A1) → RNum w' (.agg #[.bool m6, .slice o6 n6 c6]) (4) (D1 * A1) → RNum w' (.agg #[.bool m7, .slice o7 n7 c7]) (2) (D2) → RNum w' (.agg #[.bool m8, .slice o8 n8 c8]) (2) (A2) → RNum w' (.agg #[.bool m9, .slice o9 n9 c9]) (4) (D2 * A2) → RNum w' (.agg #[.bool m10, .slice o10 n10 c10]) (7) (D0 * A0 + D1 * A1 + D2 * A2) → Box w' gpq [.bool m3, .slice o3 n3 c3, .bool m6, .slice o6 n6 c6, .bool m9, .slice o9 n9 c9] → w4.heap.size ≤ gpq → WWq 0 #[true, true, true, true, true, true, true, true, true, true, true, true, true, true, true, true, true, true, true, true, true, true, true, true, true, true, true, true] (((((((((((((aq.put (some 11) (.agg #[.bool m1, .slice o1 n1 c1])).put (some 15) (.agg #[.bool m2, .slice o2 n2 c2])).put (some 16) (.agg #[.bool m3, .slice o3 n3 c3])).put (some 19) (.agg #[.bool m4, .slice o4 n4 c4])).put (some 23) (.agg #[.bool m5, .slice o5 n5 c5])).put (some 24) (.agg #[.bool m6, .slice o6 n6 c6])).put (some 27) (.agg #[.bool m7, .slice o7 n7 c7])).put (some 31) (.agg #[.bool m8, .slice o8 n8 c8])).put (some 32) (.agg #[.bool m9, .slice o9 n9 c9])).put (some 33) (.slice (some ⟨gpq, 0, none⟩) 3 3)).put (some 34) (.agg #[.bool m10, .slice o10 n10 c10])).put (some 35) (.int .i64 t)).put (some 8) (.int .i64 t)) w' := by
  intro w5 m1 o1 n1 c1 m2 o2 n2 c2 m3 o3 n3 c3 m4 o4 n4 c4 m5 o5 n5 c5 m6 o6 n6 c6 m7 o7 n7 c7 m8 o8 n8 c8 m9 o9 n9 c9 m10 o10 n10 c10 gpq hB_0 pa_0 pb_0 pv_0 pu_0 hWq_0 f1_0 f2_0 f3_0 f4_0 f5_0 f6_0 f7_0 f8_0 f9_0 f10_0 pq_0 hgpq
  rw [HWq.out, HAq.out]
  (try simp only [Act.put]);try simp only [sA,sZ,sS]
  clear hWq_0
  refine wpAnyH_done (by kernel_rfl) ?_ _
  refine NoPanic.normal ?_
  go_wp2
  go_ret
  exact ⟨rfl, hB_0⟩
 simp only [HAq.out, Act.put, sA,sZ,sS] at stq_11t
 have stq_10t : ∀ (w' : World) (m1 : Bool) (o1 : Option Addr) (n1 : Nat) (c1 : Nat) (m2 : Bool) (o2 : Option Addr) (n2 : Nat) (c2 : Nat) (m3 : Bool) (o3 : Option Addr) (n3 : Nat) (c3 : Nat) (m4 : Bool) (o4 : Option Addr) (n4 : Nat) (c4 : Nat) (m5 : Bool) (o5 : Option Addr) (n5 : Nat) (c5 : Nat) (m6 : Bool) (o6 : Option Addr) (n6 : Nat) (c6 : Nat) (m7 : Bool) (o7 : Option Addr) (n7 : Nat) (c7 : Nat) (m8 : Bool) (o8 : Option Addr) (n8 : Nat) (c8 : Nat) (m9 : Bool) (o9 : Option Addr) (n9 : Nat) (c9 : Nat) (m10 : Bool) (o10 : Option Addr) (n10 : Nat) (c10 : Nat) (gpq : Nat), Below w.heap.size w w' → Box w' (w.heap.size) [.int .i64 a0, .int .i64 a1] → Box w' (w.heap.size + 1) [.int .i64 b0, .int .i64 b1] → Box w' (w.heap.size + 1 + 1) [.int .i64 v0, .int .i64 v1] → Box w' (w.heap.size + 1 + 1 + 1) [.int .i64 u0, .int .i64 u1] → Below w4.heap.size w4 w' → RNum w' (.agg #[.bool m1, .slice o1 n1 c1]) (2) (D0) → RNum w' (.agg #[.bool m2, .slice o2 n2 c2]) (2) (A0) → RNum w' (.agg #[.bool m3, .slice o3 n3 c3]) (4) (D0 * A0) → RNum w' (.agg #[.bool m4, .slice o4 n4 c4]) (2) (D1) → RNum w' (.agg #[.bool m5, .slice o5 n5 c5]) (2) (A1) → RNum w' (.agg #[.bool m6, .slice o6 n6 c6]) (4) (D1 * A1) → RNum w' (.agg #[.bool m7, .slice o7 n7 c7]) (2) (D2) → RNum w' (.agg #[.bool m8, .slice o8 n8 c8]) (2) (A2) → RNum w' (.agg #[.bool m9, .slice o9 n9 c9]) (4) (D2 * A2) → RNum w' (.agg #[.bool m10, .slice o10 n10 c10]) (7) (D0 * A0 + D1 * A1 + D2 * A2) → Box w' gpq [.bool m3, .slice o3 n3 c3, .bool m6, .slice o6 n6 c6, .bool m9, .slice o9 n9 c9] → w4.heap.size ≤ gpq → WWq 2 #[true, true, true, true, true, true, true, true, true, true, true, true, true, true, true, true, true, true, true, true, true, true, true, true, true, true, false, false] (((((((((((aq.put (some 11) (.agg #[.bool m1, .slice o1 n1 c1])).put (some 15) (.agg #[.bool m2, .slice o2 n2 c2])).put (some 16) (.agg #[.bool m3, .slice o3 n3 c3])).put (some 19) (.agg #[.bool m4, .slice o4 n4 c4])).put (some 23) (.agg #[.bool m5, .slice o5 n5 c5])).put (some 24) (.agg #[.bool m6, .slice o6 n6 c6])).put (some 27) (.agg #[.bool m7, .slice o7 n7 c7])).put (some 31) (.agg #[.bool m8, .slice o8 n8 c8])).put (some 32) (.agg #[.bool m9, .slice o9 n9 c9])).put (some 33) (.slice (some ⟨gpq, 0, none⟩) 3 3)).put (some 34) (.agg #[.bool m10, .slice o10 n10 c10])) w' := by
  intro w6 m1 o1 n1 c1 m2 o2 n2 c2 m3 o3 n3 c3 m4 o4 n4 c4 m5 o5 n5 c5 m6 o6 n6 c6 m7 o7 n7 c7 m8 o8 n8 c8 m9 o9 n9 c9 m10 o10 n10 c10 gpq hB_0 pa_0 pb_0 pv_0 pu_0 hWq_0 f1_0 f2_0 f3_0 f4_0 f5_0 f6_0 f7_0 f8_0 f9_0 f10_0 pq_0 hgpq
  rw [HWq.out, HAq.out]
  (try simp only [Act.put]);try simp only [sA,sZ,sS]
  refine reg_all1 26 ?_ (by kernel_rfl) ?_ (fun K hK => ?_)
  rotate_left 1
  ·simp only [gA,gS,gZ]; exact rfl
  ·go_simp
   refine (Sign_named _ 7 _ t _ (by omega) f10_0.num HT.out).mono ?_
   rintro e w7 ⟨rfl, hb7⟩
   have hB_1 := hB_0.trans (hb7.mono hB_0.size)
   have pa_1 := pa_0.below hb7
   have pb_1 := pb_0.below hb7
   have pv_1 := pv_0.below hb7
   have pu_1 := pu_0.below hb7
   have hWq_1 := hWq_0.trans (hb7.mono hWq_0.size)
   have f1_1 := f1_0.below hb7
   have f2_1 := f2_0.below hb7
   have f3_1 := f3_0.below hb7
   have f4_1 := f4_0.below hb7
   have f5_1 := f5_0.below hb7
   have f6_1 := f6_0.below hb7
   have f7_1 := f7_0.below hb7
   have f8_1 := f8_0.below hb7
   have f9_1 := f9_0.below hb7
   have f10_1 := f10_0.below hb7
   have pq_1 := pq_0.below hb7
   clear hb7 hB_0 pa_0 pb_0 pv_0 pu_0 hWq_0 f1_0 f2_0 f3_0 f4_0 f5_0 f6_0 f7_0 f8_0 f9_0 f10_0 pq_0
   go_wp2_with fail
   refine hK.out _ _ ⟨pa_1.c0, pa_1.c1, pb_1.c0, pb_1.c1, pv_1.c0, pv_1.c1, pu_1.c0, pu_1.c1⟩ (fun hHeld => ?_)
   clear hK K
   (try simp only [Act.put]);try simp only [sA,sZ,sS]
   refine rU 27 _ _ ?_
   (try simp only [Act.put]);try simp only [sA,sZ,sS]
   rw [← HWq.out]
   exact stq_11t _ m1 o1 n1 c1 m2 o2 n2 c2 m3 o3 n3 c3 m4 o4 n4 c4 m5 o5 n5 c5 m6 o6 n6 c6 m7 o7 n7 c7 m8 o8 n8 c8 m9 o9 n9 c9 m10 o10 n10 c10 gpq hB_1 pa_1 pb_1 pv_1 pu_1 hWq_1 f1_1 f2_1 f3_1 f4_1 f5_1 f6_1 f7_1 f8_1 f9_1 f10_1 pq_1 (by omega)
 try simp only [HAq.out, Act.put, sA,sZ,sS] at stq_10t
 have stq_9t : ∀ (w' : World) (m1 : Bool) (o1 : Option Addr) (n1 : Nat) (c1 : Nat) (m2 : Bool) (o2 : Option Addr) (n2 : Nat) (c2 : Nat) (m3 : Bool) (o3 : Option Addr) (n3 : Nat) (c3 : Nat) (m4 : Bool) (o4 : Option Addr) (n4 : Nat) (c4 : Nat) (m5 : Bool) (o5 : Option Addr) (n5 : Nat) (c5 : Nat) (m6 : Bool) (o6 : Option Addr) (n6 : Nat) (c6 : Nat) (m7 : Bool) (o7 : Option Addr) (n7 : Nat) (c7 : Nat) (m8 : Bool) (o8 : Option Addr) (n8 : Nat) (c8 : Nat) (m9 : Bool) (o9 : Option Addr) (n9 : Nat) (c9 : Nat) (gpq : Nat), Below w.heap.size w w' → Box w' (w.heap.size) [.int .i64 a0, .int .i64 a1] → Box w' (w.heap.size + 1) [.int .i64 b0, .int .i64 b1] → Box w' (w.heap.size + 1 + 1) [.int .i64 v0, .int .i64 v1] → Box w' (w.heap.size + 1 + 1 + 1) [.int .i64 u0, .int .i64 u1] → Below w4.heap.size w4 w' → RNum w' (.agg #[.bool m1, .slice o1 n1 c1]) (2) (D0) → RNum w' (.agg #[.bool m2, .slice o2 n2 c2]) (2) (A0) → RNum w' (.agg #[.bool m3, .slice o3 n3 c3]) (4) (D0 * A0) → RNum w' (.agg #[.bool m4, .slice o4 n4 c4]) (2) (D1) → RNum w' (.agg #[.bool m5, .slice o5 n5 c5]) (2) (A1) → RNum w' (.agg #[.bool m6, .slice o6 n6 c6]) (4) (D1 * A1) → RNum w' (.agg #[.bool m7, .slice o7 n7 c7]) (2) (D2) → RNum w' (.agg #[.bool m8, .slice o8 n8 c8]) (2) (A2) → RNum w' (.agg #[.bool m9, .slice o9 n9 c9]) (4) (D2 * A2) → Box w' gpq [.bool m3, .slice o3 n3 c3, .bool m6, .slice o6 n6 c6, .bool m9, .slice o9 n9 c9] → w4.heap.size ≤ gpq → WWq 3 #[true, true, true, true, true, true, true, true, true, true, true, true, true, true, true, true, true, true, true, true, true, true, true, true, true, false, false, false] ((((((((((aq.put (some 11) (.agg #[.bool m1, .slice o1 n1 c1])).put (some 15) (.agg #[.bool m2, .slice o2 n2 c2])).put (some 16) (.agg #[.bool m3, .slice o3 n3 c3])).put (some 19) (.agg #[.bool m4, .slice o4 n4 c4])).put (some 23) (.agg #[.bool m5, .slice o5 n5 c5])).put (some 24) (.agg #[.bool m6, .slice o6 n6 c6])).put (some 27) (.agg #[.bool m7, .slice o7 n7 c7])).put (some 31) (.agg #[.bool m8, .slice o8 n8 c8])).put (some 32) (.agg #[.bool m9, .slice o9 n9 c9])).put (some 33) (.slice (some ⟨gpq, 0, none⟩) 3 3)) w' := by
  intro w8 m1 o1 n1 c1 m2 o2 n2 c2 m3 o3 n3 c3 m4 o4 n4 c4 m5 o5 n5 c5 m6 o6 n6 c6 m7 o7 n7 c7 m8 o8 n8 c8 m9 o9 n9 c9 gpq hB_0 pa_0 pb_0 pv_0 pu_0 hWq_0 f1_0 f2_0 f3_0 f4_0 f5_0 f6_0 f7_0 f8_0 f9_0 pq_0 hgpq
  rw [HWq.out, HAq.out]
  (try simp only [Act.put]);try simp only [sA,sZ,sS]
  refine reg_all1 25 ?_ (by kernel_rfl) ?_ (fun K hK => ?_)
  rotate_left 1
  ·simp only [gA,gS,gZ]; exact rfl
  ·go_simp
   refine (sum_three (some ⟨gpq, 0, none⟩) 3 4 4 4 _ _ _ _ (by omega) (by omega) (by omega) (nums3_box pq_0 f3_0.num f6_0.num f9_0.num)).mono ?_
   rintro e w9 ⟨m10, o10, n10, c10, rfl, f10_0, hb9⟩
   have hB_1 := hB_0.trans (hb9.mono hB_0.size)
   have pa_1 := pa_0.below hb9
   have pb_1 := pb_0.below hb9
   have pv_1 := pv_0.below hb9
   have pu_1 := pu_0.below hb9
   have hWq_1 := hWq_0.trans (hb9.mono hWq_0.size)
   have f1_1 := f1_0.below hb9
   have f2_1 := f2_0.below hb9
   have f3_1 := f3_0.below hb9
   have f4_1 := f4_0.below hb9
   have f5_1 := f5_0.below hb9
   have f6_1 := f6_0.below hb9
   have f7_1 := f7_0.below hb9
   have f8_1 := f8_0.below hb9
   have f9_1 := f9_0.below hb9
   have pq_1 := pq_0.below hb9
   clear hb9 hB_0 pa_0 pb_0 pv_0 pu_0 hWq_0 f1_0 f2_0 f3_0 f4_0 f5_0 f6_0 f7_0 f8_0 f9_0 pq_0
   go_wp2_with fail
   refine hK.out _ _ ⟨pa_1.c0, pa_1.c1, pb_1.c0, pb_1.c1, pv_1.c0, pv_1.c1, pu_1.c0, pu_1.c1⟩ (fun hHeld => ?_)
   clear hK K
   (try simp only [Act.put]);try simp only [sA,sZ,sS]
   rw [← HWq.out]
   exact stq_10t _ m1 o1 n1 c1 m2 o2 n2 c2 m3 o3 n3 c3 m4 o4 n4 c4 m5 o5 n5 c5 m6 o6 n6 c6 m7 o7 n7 c7 m8 o8 n8 c8 m9 o9 n9 c9 m10 o10 n10 c10 gpq hB_1 pa_1 pb_1 pv_1 pu_1 hWq_1 f1_1 f2_1 f3_1 f4_1 f5_1 f6_1 f7_1 f8_1 f9_1 f10_0 pq_1 (by omega)
 try simp only [HAq.out, Act.put, sA,sZ,sS] at stq_9t
 have stq_9f : ∀ (w' : World) (m1 : Bool) (o1 : Option Addr) (n1 : Nat) (c1 : Nat) (m2 : Bool) (o2 : Option Addr) (n2 : Nat) (c2 : Nat) (m3 : Bool) (o3 : Option Addr) (n3 : Nat) (c3 : Nat) (m4 : Bool) (o4 : Option Addr) (n4 : Nat) (c4 : Nat) (m5 : Bool) (o5 : Option Addr) (n5 : Nat) (c5 : Nat) (m6 : Bool) (o6 : Option Addr) (n6 : Nat) (c6 : Nat) (m7 : Bool) (o7 : Option Addr) (n7 : Nat) (c7 : Nat) (m8 : Bool) (o8 : Option Addr) (n8 : Nat) (c8 : Nat) (m9 : Bool) (o9 : Option Addr) (n9 : Nat) (c9 : Nat), Below w.heap.size w w' → Box w' (w.heap.size) [.int .i64 a0, .int .i64 a1] → Box w' (w.heap.size + 1) [.int .i64 b0, .int .i64 b1] → Box w' (w.heap.size + 1 + 1) [.int .i64 v0, .int .i64 v1] → Box w' (w.heap.size + 1 + 1 + 1) [.int .i64 u0, .int .i64 u1] → Below w4.heap.size w4 w' → RNum w' (.agg #[.bool m1, .slice o1 n1 c1]) (2) (D0) → RNum w' (.agg #[.bool m2, .slice o2 n2 c2]) (2) (A0) → RNum w' (.agg #[.bool m3, .slice o3 n3 c3]) (4) (D0 * A0) → RNum w' (.agg #[.bool m4, .slice o4 n4 c4]) (2) (D1) → RNum w' (.agg #[.bool m5, .slice o5 n5 c5]) (2) (A1) → RNum w' (.agg #[.bool m6, .slice o6 n6 c6]) (4) (D1 * A1) → RNum w' (.agg #[.bool m7, .slice o7 n7 c7]) (2) (D2) → RNum w' (.agg #[.bool m8, .slice o8 n8 c8]) (2) (A2) → RNum w' (.agg #[.bool m9, .slice o9 n9 c9]) (4) (D2 * A2) → WWq 4 #[true, true, true, true, true, true, true, true, true, true, true, true, true, true, true, true, true, true, true, true, true, true, true, true, false, false, false, false] (((((((((aq.put (some 11) (.agg #[.bool m1, .slice o1 n1 c1])).put (some 15) (.agg #[.bool m2, .slice o2 n2 c2])).put (some 16) (.agg #[.bool m3, .slice o3 n3 c3])).put (some 19) (.agg #[.bool m4, .slice o4 n4 c4])).put (some 23) (.agg #[.bool m5, .slice o5 n5 c5])).put (some 24) (.agg #[.bool m6, .slice o6 n6 c6])).put (some 27) (.agg #[.bool m7, .slice o7 n7 c7])).put (some 31) (.agg #[.bool m8, .slice o8 n8 c8])).put (some 32) (.agg #[.bool m9, .slice o9 n9 c9])) w' := by
  intro w10 m1 o1 n1 c1 m2 o2 n2 c2 m3 o3 n3 c3 m4 o4 n4 c4 m5 o5 n5 c5 m6 o6 n6 c6 m7 o7 n7 c7 m8 o8 n8 c8 m9 o9 n9 c9 hB_0 pa_0 pb_0 pv_0 pu_0 hWq_0 f1_0 f2_0 f3_0 f4_0 f5_0 f6_0 f7_0 f8_0 f9_0
  rw [HWq.out, HAq.out]
  (try simp only [Act.put]);try simp only [sA,sZ,sS]
  refine reg_all1 24 ?_ (by kernel_rfl) ?_ (fun K hK => ?_)
  rotate_left 1
  ·simp only [gA,gS,gZ]; exact rfl
  ·go_simp
   have hgn : w4.heap.size ≤ w10.heap.size := hWq_0.size
   obtain ⟨w11, hww11, pq_0, hb11, -⟩ := new_box w10 _ rfl [.bool m3, .slice o3 n3 c3, .bool m6, .slice o6 n6 c6, .bool m9, .slice o9 n9 c9] 56
   rw [hww11]
   have hB_1 := hB_0.trans (hb11.mono hB_0.size)
   have pa_1 := pa_0.below hb11
   have pb_1 := pb_0.below hb11
   have pv_1 := pv_0.below hb11
   have pu_1 := pu_0.below hb11
   have hWq_1 := hWq_0.trans (hb11.mono hWq_0.size)
   have f1_1 := f1_0.below hb11
   have f2_1 := f2_0.below hb11
   have f3_1 := f3_0.below hb11
   have f4_1 := f4_0.below hb11
   have f5_1 := f5_0.below hb11
   have f6_1 := f6_0.below hb11
   have f7_1 := f7_0.below hb11
   have f8_1 := f8_0.below hb11
   have f9_1 := f9_0.below hb11
   clear hb11 hB_0 pa_0 pb_0 pv_0 pu_0 hWq_0 f1_0 f2_0 f3_0 f4_0 f5_0 f6_0 f7_0 f8_0 f9_0
   refine hK.out _ _ ⟨pa_1.c0, pa_1.c1, pb_1.c0, pb_1.c1, pv_1.c0, pv_1.c1, pu_1.c0, pu_1.c1⟩ (fun hHeld => ?_)
   clear hK K
   (try simp only [Act.put]);try simp only [sA,sZ,sS]
   rw [← HWq.out]
   exact stq_9t _ m1 o1 n1 c1 m2 o2 n2 c2 m3 o3 n3 c3 m4 o4 n4 c4 m5 o5 n5 c5 m6 o6 n6 c6 m7 o7 n7 c7 m8 o8 n8 c8 m9 o9 n9 c9 w10.heap.size hB_1 pa_1 pb_1 pv_1 pu_1 hWq_1 f1_1 f2_1 f3_1 f4_1 f5_1 f6_1 f7_1 f8_1 f9_1 pq_0 (by omega)
 try simp only [HAq.out, Act.put, sA,sZ,sS] at stq_9f
 have stq_8f : ∀ (w' : World) (m1 : Bool) (o1 : Option Addr) (n1 : Nat) (c1 : Nat) (m2 : Bool) (o2 : Option Addr) (n2 : Nat) (c2 : Nat) (m3 : Bool) (o3 : Option Addr) (n3 : Nat) (c3 : Nat) (m4 : Bool) (o4 : Option Addr) (n4 : Nat) (c4 : Nat) (m5 : Bool) (o5 : Option Addr) (n5 : Nat) (c5 : Nat) (m6 : Bool) (o6 : Option Addr) (n6 : Nat) (c6 : Nat) (m7 : Bool) (o7 : Option Addr) (n7 : Nat) (c7 : Nat) (m8 : Bool) (o8 : Option Addr) (n8 : Nat) (c8 : Nat), Below w.heap.size w w' → Box w' (w.heap.size) [.int .i64 a0, .int .i64 a1] → Box w' (w.heap.size + 1) [.int .i64 b0, .int .i64 b1] → Box w' (w.heap.size + 1 + 1) [.int .i64 v0, .int .i64 v1] → Box w' (w.heap.size + 1 + 1 + 1) [.int .i64 u0, .int .i64 u1] → Below w4.heap.size w4 w' → RNum w' (.agg #[.bool m1, .slice o1 n1 c1]) (2) (D0) → RNum w' (.agg #[.bool m2, .slice o2 n2 c2]) (2) (A0) → RNum w' (.agg #[.bool m3, .slice o3 n3 c3]) (4) (D0 * A0) → RNum w' (.agg #[.bool m4, .slice o4 n4 c4]) (2) (D1) → RNum w' (.agg #[.bool m5, .slice o5 n5 c5]) (2) (A1) → RNum w' (.agg #[.bool m6, .slice o6 n6 c6]) (4) (D1 * A1) → RNum w' (.agg #[.bool m7, .slice o7 n7 c7]) (2) (D2) → RNum w' (.agg #[.bool m8, .slice o8 n8 c8]) (2) (A2) → WWq 5 #[true, true, true, true, true, true, true, true, true, true, true, true, true, true, true, true, true, true, true, true, true, true, true, false, false, false, false, false] ((((((((aq.put (some 11) (.agg #[.bool m1, .slice o1 n1 c1])).put (some 15) (.agg #[.bool m2, .slice o2 n2 c2])).put (some 16) (.agg #[.bool m3, .slice o3 n3 c3])).put (some 19) (.agg #[.bool m4, .slice o4 n4 c4])).put (some 23) (.agg #[.bool m5, .slice o5 n5 c5])).put (some 24) (.agg #[.bool m6, .slice o6 n6 c6])).put (some 27) (.agg #[.bool m7, .slice o7 n7 c7])).put (some 31) (.agg #[.bool m8, .slice o8 n8 c8])) w' := by
  intro w12 m1 o1 n1 c1 m2 o2 n2 c2 m3 o3 n3 c3 m4 o4 n4 c4 m5 o5 n5 c5 m6 o6 n6 c6 m7 o7 n7 c7 m8 o8 n8 c8 hB_0 pa_0 pb_0 pv_0 pu_0 hWq_0 f1_0 f2_0 f3_0 f4_0 f5_0 f6_0 f7_0 f8_0
  rw [HWq.out, HAq.out]
  (try simp only [Act.put]);try simp only [sA,sZ,sS]
  refine reg_all1 23 ?_ (by kernel_rfl) ?_ (fun K hK => ?_)
  rotate_left 1
  ·simp only [gA,gS,gZ]; exact rfl
  ·go_simp
   refine (nMul_any _ _ 2 2 D2 A2 _ (by omega) (by omega) f7_0.num f8_0.num).mono ?_
   rintro e w13 ⟨m9, o9, n9, c9, rfl, f9_0, hb13⟩
   have hB_1 := hB_0.trans (hb13.mono hB_0.size)
   have pa_1 := pa_0.below hb13
   have pb_1 := pb_0.below hb13
   have pv_1 := pv_0.below hb13
   have pu_1 := pu_0.below hb13
   have hWq_1 := hWq_0.trans (hb13.mono hWq_0.size)
   have f1_1 := f1_0.below hb13
   have f2_1 := f2_0.below hb13
   have f3_1 := f3_0.below hb13
   have f4_1 := f4_0.below hb13
   have f5_1 := f5_0.below hb13
   have f6_1 := f6_0.below hb13
   have f7_1 := f7_0.below hb13
   have f8_1 := f8_0.below hb13
   clear hb13 hB_0 pa_0 pb_0 pv_0 pu_0 hWq_0 f1_0 f2_0 f3_0 f4_0 f5_0 f6_0 f7_0 f8_0
   go_wp2_with fail
   refine hK.out _ _ ⟨pa_1.c0, pa_1.c1, pb_1.c0, pb_1.c1, pv_1.c0, pv_1.c1, pu_1.c0, pu_1.c1⟩ (fun hHeld => ?_)
   clear hK K
   (try simp only [Act.put]);try simp only [sA,sZ,sS]
   rw [← HWq.out]
   exact stq_9f _ m1 o1 n1 c1 m2 o2 n2 c2 m3 o3 n3 c3 m4 o4 n4 c4 m5 o5 n5 c5 m6 o6 n6 c6 m7 o7 n7 c7 m8 o8 n8 c8 m9 o9 n9 c9 hB_1 pa_1 pb_1 pv_1 pu_1 hWq_1 f1_1 f2_1 f3_1 f4_1 f5_1 f6_1 f7_1 f8_1 f9_0
 try simp only [HAq.out, Act.put, sA,sZ,sS] at stq_8f
 have stq_7f : ∀ (w' : World) (m1 : Bool) (o1 : Option Addr) (n1 : Nat) (c1 : Nat) (m2 : Bool) (o2 : Option Addr) (n2 : Nat) (c2 : Nat) (m3 : Bool) (o3 : Option Addr) (n3 : Nat) (c3 : Nat) (m4 : Bool) (o4 : Option Addr) (n4 : Nat) (c4 : Nat) (m5 : Bool) (o5 : Option Addr) (n5 : Nat) (c5 : Nat) (m6 : Bool) (o6 : Option Addr) (n6 : Nat) (c6 : Nat) (m7 : Bool) (o7 : Option Addr) (n7 : Nat) (c7 : Nat), Below w.heap.size w w' → Box w' (w.heap.size) [.int .i64 a0, .int .i64 a1] → Box w' (w.heap.size + 1) [.int .i64 b0, .int .i64 b1] → Box w' (w.heap.size + 1 + 1) [.int .i64 v0, .int .i64 v1] → Box w' (w.heap.size + 1 + 1 + 1) [.int .i64 u0, .int .i64 u1] → Below w4.heap.size w4 w' → RNum w' (.agg #[.bool m1, .slice o1 n1 c1]) (2) (D0) → RNum w' (.agg #[.bool m2, .slice o2 n2 c2]) (2) (A0) → RNum w' (.agg #[.bool m3, .slice o3 n3 c3]) (4) (D0 * A0) → RNum w' (.agg #[.bool m4, .slice o4 n4 c4]) (2) (D1) → RNum w' (.agg #[.bool m5, .slice o5 n5 c5]) (2) (A1) → RNum w' (.agg #[.bool m6, .slice o6 n6 c6]) (4) (D1 * A1) → RNum w' (.agg #[.bool m7, .slice o7 n7 c7]) (2) (D2) → WWq 6 #[true, true, true, true, true, true, true, true, true, true, true, true, true, true, true, true, true, true, true, true, true, true, false, false, false, false, false, false] (((((((aq.put (some 11) (.agg #[.bool m1, .slice o1 n1 c1])).put (some 15) (.agg #[.bool m2, .slice o2 n2 c2])).put (some 16) (.agg #[.bool m3, .slice o3 n3 c3])).put (some 19) (.agg #[.bool m4, .slice o4 n4 c4])).put (some 23) (.agg #[.bool m5, .slice o5 n5 c5])).put (some 24) (.agg #[.bool m6, .slice o6 n6 c6])).put (some 27) (.agg #[.bool m7, .slice o7 n7 c7])) w' := by
  intro w14 m1 o1 n1 c1 m2 o2 n2 c2 m3 o3 n3 c3 m4 o4 n4 c4 m5 o5 n5 c5 m6 o6 n6 c6 m7 o7 n7 c7 hB_0 pa_0 pb_0 pv_0 pu_0 hWq_0 f1_0 f2_0 f3_0 f4_0 f5_0 f6_0 f7_0
  rw [HWq.out, HAq.out]
  (try simp only [Act.put]);try simp only [sA,sZ,sS]
  refine reg_all1 22 ?_ (by kernel_rfl) ?_ (fun K hK => ?_)
  rotate_left 1
  ·simp only [gA,gS,gZ]; exact rfl
  ·go_simp
   refine (K7.out _).mono ?_
   rintro e w15 ⟨m8, o8, n8, c8, rfl, f8_0, hb15⟩
   have hB_1 := hB_0.trans (hb15.mono hB_0.size)
   have pa_1 := pa_0.below hb15
   have pb_1 := pb_0.below hb15
   have pv_1 := pv_0.below hb15
   have pu_1 := pu_0.below hb15
   have hWq_1 := hWq_0.trans (hb15.mono hWq_0.size)
   have f1_1 := f1_0.below hb15
   have f2_1 := f2_0.below hb15
   have f3_1 := f3_0.below hb15
   have f4_1 := f4_0.below hb15
   have f5_1 := f5_0.below hb15
   have f6_1 := f6_0.below hb15
   have f7_1 := f7_0.below hb15
   clear hb15 hB_0 pa_0 pb_0 pv_0 pu_0 hWq_0 f1_0 f2_0 f3_0 f4_0 f5_0 f6_0 f7_0
   go_wp2_with fail
   refine hK.out _ _ ⟨pa_1.c0, pa_1.c1, pb_1.c0, pb_1.c1, pv_1.c0, pv_1.c1, pu_1.c0, pu_1.c1⟩ (fun hHeld => ?_)
   clear hK K
   (try simp only [Act.put]);try simp only [sA,sZ,sS]
   rw [← HWq.out]
   exact stq_8f _ m1 o1 n1 c1 m2 o2 n2 c2 m3 o3 n3 c3 m4 o4 n4 c4 m5 o5 n5 c5 m6 o6 n6 c6 m7 o7 n7 c7 m8 o8 n8 c8 hB_1 pa_1 pb_1 pv_1 pu_1 hWq_1 f1_1 f2_1 f3_1 f4_1 f5_1 f6_1 f7_1 f8_0
 try simp only [HAq.out, Act.put, sA,sZ,sS] at stq_7f
 have stq_6f : ∀ (w' : World) (m1 : Bool) (o1 : Option Addr) (n1 : Nat) (c1 : Nat) (m2 : Bool) (o2 : Option Addr) (n2 : Nat) (c2 : Nat) (m3 : Bool) (o3 : Option Addr) (n3 : Nat) (c3 : Nat) (m4 : Bool) (o4 : Option Addr) (n4 : Nat) (c4 : Nat) (m5 : Bool) (o5 : Option Addr) (n5 : Nat) (c5 : Nat) (m6 : Bool) (o6 : Option Addr) (n6 : Nat) (c6 : Nat), Below w.heap.size w w' → Box w' (w.heap.size) [.int .i64 a0, .int .i64 a1] → Box w' (w.heap.size + 1) [.int .i64 b0, .int .i64 b1] → Box w' (w.heap.size + 1 + 1) [.int .i64 v0, .int .i64 v1] → Box w' (w.heap.size + 1 + 1 + 1) [.int .i64 u0, .int .i64 u1] → Below w4.heap.size w4 w' → RNum w' (.agg #[.bool m1, .slice o1 n1 c1]) (2) (D0) → RNum w' (.agg #[.bool m2, .slice o2 n2 c2]) (2) (A0) → RNum w' (.agg #[.bool m3, .slice o3 n3 c3]) (4) (D0 * A0) → RNum w' (.agg #[.bool m4, .slice o4 n4 c4]) (2) (D1) → RNum w' (.agg #[.bool m5, .slice o5 n5 c5]) (2) (A1) → RNum w' (.agg #[.bool m6, .slice o6 n6 c6]) (4) (D1 * A1) → WWq 7 #[true, true, true, true, true, true, true, true, true, true, true, true, true, true, true, true, true, true, false, true, true, true, false, false, false, false, false, false] ((((((aq.put (some 11) (.agg #[.bool m1, .slice o1 n1 c1])).put (some 15) (.agg #[.bool m2, .slice o2 n2 c2])).put (some 16) (.agg #[.bool m3, .slice o3 n3 c3])).put (some 19) (.agg #[.bool m4, .slice o4 n4 c4])).put (some 23) (.agg #[.bool m5, .slice o5 n5 c5])).put (some 24) (.agg #[.bool m6, .slice o6 n6 c6])) w' := by
  intro w16 m1 o1 n1 c1 m2 o2 n2 c2 m3 o3 n3 c3 m4 o4 n4 c4 m5 o5 n5 c5 m6 o6 n6 c6 hB_0 pa_0 pb_0 pv_0 pu_0 hWq_0 f1_0 f2_0 f3_0 f4_0 f5_0 f6_0
  rw [HWq.out, HAq.out]
  (try simp only [Act.put]);try simp only [sA,sZ,sS]
  refine reg_all1 18 ?_ (by kernel_rfl) ?_ (fun K hK => ?_)
  rotate_left 1
  ·simp only [gA,gS,gZ]; exact rfl
  ·go_simp
   refine (K6.out _).mono ?_
   rintro e w17 ⟨m7, o7, n7, c7, rfl, f7_0, hb17⟩
   have hB_1 := hB_0.trans (hb17.mono hB_0.size)
   have pa_1 := pa_0.below hb17
   have pb_1 := pb_0.below hb17
   have pv_1 := pv_0.below hb17
   have pu_1 := pu_0.below hb17
   have hWq_1 := hWq_0.trans (hb17.mono hWq_0.size)
   have f1_1 := f1_0.below hb17
   have f2_1 := f2_0.below hb17
   have f3_1 := f3_0.below hb17
   have f4_1 := f4_0.below hb17
   have f5_1 := f5_0.below hb17
   have f6_1 := f6_0.below hb17
   clear hb17 hB_0 pa_0 pb_0 pv_0 pu_0 hWq_0 f1_0 f2_0 f3_0 f4_0 f5_0 f6_0
   go_wp2_with fail
   refine hK.out _ _ ⟨pa_1.c0, pa_1.c1, pb_1.c0, pb_1.c1, pv_1.c0, pv_1.c1, pu_1.c0, pu_1.c1⟩ (fun hHeld => ?_)
   clear hK K
   (try simp only [Act.put]);try simp only [sA,sZ,sS]
   rw [← HWq.out]
   exact stq_7f _ m1 o1 n1 c1 m2 o2 n2 c2 m3 o3 n3 c3 m4 o4 n4 c4 m5 o5 n5 c5 m6 o6 n6 c6 m7 o7 n7 c7 hB_1 pa_1 pb_1 pv_1 pu_1 hWq_1 f1_1 f2_1 f3_1 f4_1 f5_1 f6_1 f7_0
 try simp only [HAq.out, Act.put, sA,sZ,sS] at stq_6f
 have stq_5f : ∀ (w' : World) (m1 : Bool) (o1 : Option Addr) (n1 : Nat) (c1 : Nat) (m2 : Bool) (o2 : Option Addr) (n2 : Nat) (c2 : Nat) (m3 : Bool) (o3 : Option Addr) (n3 : Nat) (c3 : Nat) (m4 : Bool) (o4 : Option Addr) (n4 : Nat) (c4 : Nat) (m5 : Bool) (o5 : Option Addr) (n5 : Nat) (c5 : Nat), Below w.heap.size w w' → Box w' (w.heap.size) [.int .i64 a0, .int .i64 a1] → Box w' (w.heap.size + 1) [.int .i64 b0, .int .i64 b1] → Box w' (w.heap.size + 1 + 1) [.int .i64 v0, .int .i64 v1] → Box w' (w.heap.size + 1 + 1 + 1) [.int .i64 u0, .int .i64 u1] → Below w4.heap.size w4 w' → RNum w' (.agg #[.bool m1, .slice o1 n1 c1]) (2) (D0) → RNum w' (.agg #[.bool m2, .slice o2 n2 c2]) (2) (A0) → RNum w' (.agg #[.bool m3, .slice o3 n3 c3]) (4) (D0 * A0) → RNum w' (.agg #[.bool m4, .slice o4 n4 c4]) (2) (D1) → RNum w' (.agg #[.bool m5, .slice o5 n5 c5]) (2) (A1) → WWq 8 #[true, true, true, true, true, true, true, true, true, true, true, true, true, true, true, false, true, true, false, true, true, true, false, false, false, false, false, false] (((((aq.put (some 11) (.agg #[.bool m1, .slice o1 n1 c1])).put (some 15) (.agg #[.bool m2, .slice o2 n2 c2])).put (some 16) (.agg #[.bool m3, .slice o3 n3 c3])).put (some 19) (.agg #[.bool m4, .slice o4 n4 c4])).put (some 23) (.agg #[.bool m5, .slice o5 n5 c5])) w' := by
  intro w18 m1 o1 n1 c1 m2 o2 n2 c2 m3 o3 n3 c3 m4 o4 n4 c4 m5 o5 n5 c5 hB_0 pa_0 pb_0 pv_0 pu_0 hWq_0 f1_0 f2_0 f3_0 f4_0 f5_0
  rw [HWq.out, HAq.out]
  (try simp only [Act.put]);try simp only [sA,sZ,sS]
  refine reg_all1 15 ?_ (by kernel_rfl) ?_ (fun K hK => ?_)
  rotate_left 1
  ·simp only [gA,gS,gZ]; exact rfl
  ·go_simp
   refine (nMul_any _ _ 2 2 D1 A1 _ (by omega) (by omega) f4_0.num f5_0.num).mono ?_
   rintro e w19 ⟨m6, o6, n6, c6, rfl, f6_0, hb19⟩
   have hB_1 := hB_0.trans (hb19.mono hB_0.size)
   have pa_1 := pa_0.below hb19
   have pb_1 := pb_0.below hb19
   have pv_1 := pv_0.below hb19
   have pu_1 := pu_0.below hb19
   have hWq_1 := hWq_0.trans (hb19.mono hWq_0.size)
   have f1_1 := f1_0.below hb19
   have f2_1 := f2_0.below hb19
   have f3_1 := f3_0.below hb19
   have f4_1 := f4_0.below hb19
   have f5_1 := f5_0.below hb19
   clear hb19 hB_0 pa_0 pb_0 pv_0 pu_0 hWq_0 f1_0 f2_0 f3_0 f4_0 f5_0
   go_wp2_with fail
   refine hK.out _ _ ⟨pa_1.c0, pa_1.c1, pb_1.c0, pb_1.c1, pv_1.c0, pv_1.c1, pu_1.c0, pu_1.c1⟩ (fun hHeld => ?_)
   clear hK K
   (try simp only [Act.put]);try simp only [sA,sZ,sS]
   rw [← HWq.out]
   exact stq_6f _ m1 o1 n1 c1 m2 o2 n2 c2 m3 o3 n3 c3 m4 o4 n4 c4 m5 o5 n5 c5 m6 o6 n6 c6 hB_1 pa_1 pb_1 pv_1 pu_1 hWq_1 f1_1 f2_1 f3_1 f4_1 f5_1 f6_0
 try simp only [HAq.out, Act.put, sA,sZ,sS] at stq_5f
 have stq_4f : ∀ (w' : World) (m1 : Bool) (o1 : Option Addr) (n1 : Nat) (c1 : Nat) (m2 : Bool) (o2 : Option Addr) (n2 : Nat) (c2 : Nat) (m3 : Bool) (o3 : Option Addr) (n3 : Nat) (c3 : Nat) (m4 : Bool) (o4 : Option Addr) (n4 : Nat) (c4 : Nat), Below w.heap.size w w' → Box w' (w.heap.size) [.int .i64 a0, .int .i64 a1] → Box w' (w.heap.size + 1) [.int .i64 b0, .int .i64 b1] → Box w' (w.heap.size + 1 + 1) [.int .i64 v0, .int .i64 v1] → Box w' (w.heap.size + 1 + 1 + 1) [.int .i64 u0, .int .i64 u1] → Below w4.heap.size w4 w' → RNum w' (.agg #[.bool m1, .slice o1 n1 c1]) (2) (D0) → RNum w' (.agg #[.bool m2, .slice o2 n2 c2]) (2) (A0) → RNum w' (.agg #[.bool m3, .slice o3 n3 c3]) (4) (D0 * A0) → RNum w' (.agg #[.bool m4, .slice o4 n4 c4]) (2) (D1) → WWq 9 #[true, true, true, true, true, true, true, true, true, true, true, true, true, true, false, false, true, true, false, true, true, true, false, false, false, false, false, false] ((((aq.put (some 11) (.agg #[.bool m1, .slice o1 n1 c1])).put (some 15) (.agg #[.bool m2, .slice o2 n2 c2])).put (some 16) (.agg #[.bool m3, .slice o3 n3 c3])).put (some 19) (.agg #[.bool m4, .slice o4 n4 c4])) w' := by
  intro w20 m1 o1 n1 c1 m2 o2 n2 c2 m3 o3 n3 c3 m4 o4 n4 c4 hB_0 pa_0 pb_0 pv_0 pu_0 hWq_0 f1_0 f2_0 f3_0 f4_0
  rw [HWq.out, HAq.out]
  (try simp only [Act.put]);try simp only [sA,sZ,sS]
  refine reg_all1 14 ?_ (by kernel_rfl) ?_ (fun K hK => ?_)
  rotate_left 1
  ·simp only [gA,gS,gZ]; exact rfl
  ·go_simp
   refine (K4.out _).mono ?_
   rintro e w21 ⟨m5, o5, n5, c5, rfl, f5_0, hb21⟩
   have hB_1 := hB_0.trans (hb21.mono hB_0.size)
   have pa_1 := pa_0.below hb21
   have pb_1 := pb_0.below hb21
   have pv_1 := pv_0.below hb21
   have pu_1 := pu_0.below hb21
   have hWq_1 := hWq_0.trans (hb21.mono hWq_0.size)
   have f1_1 := f1_0.below hb21
   have f2_1 := f2_0.below hb21
   have f3_1 := f3_0.below hb21
   have f4_1 := f4_0.below hb21
   clear hb21 hB_0 pa_0 pb_0 pv_0 pu_0 hWq_0 f1_0 f2_0 f3_0 f4_0
   go_wp2_with fail
   refine hK.out _ _ ⟨pa_1.c0, pa_1.c1, pb_1.c0, pb_1.c1, pv_1.c0, pv_1.c1, pu_1.c0, pu_1.c1⟩ (fun hHeld => ?_)
   clear hK K
   (try simp only [Act.put]);try simp only [sA,sZ,sS]
   rw [← HWq.out]
   exact stq_5f _ m1 o1 n1 c1 m2 o2 n2 c2 m3 o3 n3 c3 m4 o4 n4 c4 m5 o5 n5 c5 hB_1 pa_1 pb_1 pv_1 pu_1 hWq_1 f1_1 f2_1 f3_1 f4_1 f5_0
 try simp only [HAq.out, Act.put, sA,sZ,sS] at stq_4f
 have stq_3f : ∀ (w' : World) (m1 : Bool) (o1 : Option Addr) (n1 : Nat) (c1 : Nat) (m2 : Bool) (o2 : Option Addr) (n2 : Nat) (c2 : Nat) (m3 : Bool) (o3 : Option Addr) (n3 : Nat) (c3 : Nat), Below w.heap.size w w' → Box w' (w.heap.size) [.int .i64 a0, .int .i64 a1] → Box w' (w.heap.size + 1) [.int .i64 b0, .int .i64 b1] → Box w' (w.heap.size + 1 + 1) [.int .i64 v0, .int .i64 v1] → Box w' (w.heap.size + 1 + 1 + 1) [.int .i64 u0, .int .i64 u1] → Below w4.heap.size w4 w' → RNum w' (.agg #[.bool m1, .slice o1 n1 c1]) (2) (D0) → RNum w' (.agg #[.bool m2, .slice o2 n2 c2]) (2) (A0) → RNum w' (.agg #[.bool m3, .slice o3 n3 c3]) (4) (D0 * A0) → WWq 10 #[true, true, true, true, true, true, true, true, true, true, false, true, true, true, false, false, true, true, false, true, true, true, false, false, false, false, false, false] (((aq.put (some 11) (.agg #[.bool m1, .slice o1 n1 c1])).put (some 15) (.agg #[.bool m2, .slice o2 n2 c2])).put (some 16) (.agg #[.bool m3, .slice o3 n3 c3])) w' := by
  intro w22 m1 o1 n1 c1 m2 o2 n2 c2 m3 o3 n3 c3 hB_0 pa_0 pb_0 pv_0 pu_0 hWq_0 f1_0 f2_0 f3_0
  rw [HWq.out, HAq.out]
  (try simp only [Act.put]);try simp only [sA,sZ,sS]
  refine reg_all1 10 ?_ (by kernel_rfl) ?_ (fun K hK => ?_)
  rotate_left 1
  ·simp only [gA,gS,gZ]; exact rfl
  ·go_simp
   refine (K3.out _).mono ?_
   rintro e w23 ⟨m4, o4, n4, c4, rfl, f4_0, hb23⟩
   have hB_1 := hB_0.trans (hb23.mono hB_0.size)
   have pa_1 := pa_0.below hb23
   have pb_1 := pb_0.below hb23
   have pv_1 := pv_0.below hb23
   have pu_1 := pu_0.below hb23
   have hWq_1 := hWq_0.trans (hb23.mono hWq_0.size)
   have f1_1 := f1_0.below hb23
   have f2_1 := f2_0.below hb23
   have f3_1 := f3_0.below hb23
   clear hb23 hB_0 pa_0 pb_0 pv_0 pu_0 hWq_0 f1_0 f2_0 f3_0
   go_wp2_with fail
   refine hK.out _ _ ⟨pa_1.c0, pa_1.c1, pb_1.c0, pb_1.c1, pv_1.c0, pv_1.c1, pu_1.c0, pu_1.c1⟩ (fun hHeld => ?_)
   clear hK K
   (try simp only [Act.put]);try simp only [sA,sZ,sS]
   rw [← HWq.out]
   exact stq_4f _ m1 o1 n1 c1 m2 o2 n2 c2 m3 o3 n3 c3 m4 o4 n4 c4 hB_1 pa_1 pb_1 pv_1 pu_1 hWq_1 f1_1 f2_1 f3_1 f4_0
 try simp only [HAq.out, Act.put, sA,sZ,sS] at stq_3f
 have stq_2f : ∀ (w' : World) (m1 : Bool) (o1 : Option Addr) (n1 : Nat) (c1 : Nat) (m2 : Bool) (o2 : Option Addr) (n2 : Nat) (c2 : Nat), Below w.heap.size w w' → Box w' (w.heap.size) [.int .i64 a0, .int .i64 a1] → Box w' (w.heap.size + 1) [.int .i64 b0, .int .i64 b1] → Box w' (w.heap.size + 1 + 1) [.int .i64 v0, .int .i64 v1] → Box w' (w.heap.size + 1 + 1 + 1) [.int .i64 u0, .int .i64 u1] → Below w4.heap.size w4 w' → RNum w' (.agg #[.bool m1, .slice o1 n1 c1]) (2) (D0) → RNum w' (.agg #[.bool m2, .slice o2 n2 c2]) (2) (A0) → WWq 11 #[true, true, true, true, true, true, true, false, true, true, false, true, true, true, false, false, true, true, false, true, true, true, false, false, false, false, false, false] ((aq.put (some 11) (.agg #[.bool m1, .slice o1 n1 c1])).put (some 15) (.agg #[.bool m2, .slice o2 n2 c2])) w' := by
  intro w24 m1 o1 n1 c1 m2 o2 n2 c2 hB_0 pa_0 pb_0 pv_0 pu_0 hWq_0 f1_0 f2_0
  rw [HWq.out, HAq.out]
  (try simp only [Act.put]);try simp only [sA,sZ,sS]
  refine reg_all1 7 ?_ (by kernel_rfl) ?_ (fun K hK => ?_)
  rotate_left 1
  ·simp only [gA,gS,gZ]; exact rfl
  ·go_simp
   refine (nMul_any _ _ 2 2 D0 A0 _ (by omega) (by omega) f1_0.num f2_0.num).mono ?_
   rintro e w25 ⟨m3, o3, n3, c3, rfl, f3_0, hb25⟩
   have hB_1 := hB_0.trans (hb25.mono hB_0.size)
   have pa_1 := pa_0.below hb25
   have pb_1 := pb_0.below hb25
   have pv_1 := pv_0.below hb25
   have pu_1 := pu_0.below hb25
   have hWq_1 := hWq_0.trans (hb25.mono hWq_0.size)
   have f1_1 := f1_0.below hb25
   have f2_1 := f2_0.below hb25
   clear hb25 hB_0 pa_0 pb_0 pv_0 pu_0 hWq_0 f1_0 f2_0
   go_wp2_with fail
   refine hK.out _ _ ⟨pa_1.c0, pa_1.c1, pb_1.c0, pb_1.c1, pv_1.c0, pv_1.c1, pu_1.c0, pu_1.c1⟩ (fun hHeld => ?_)
   clear hK K
   (try simp only [Act.put]);try simp only [sA,sZ,sS]
   rw [← HWq.out]
   exact stq_3f _ m1 o1 n1 c1 m2 o2 n2 c2 m3 o3 n3 c3 hB_1 pa_1 pb_1 pv_1 pu_1 hWq_1 f1_1 f2_1 f3_0
 try simp only [HAq.out, Act.put, sA,sZ,sS] at stq_2f
 have stq_1f : ∀ (w' : World) (m1 : Bool) (o1 : Option Addr) (n1 : Nat) (c1 : Nat), Below w.heap.size w w' → Box w' (w.heap.size) [.int .i64 a0, .int .i64 a1] → Box w' (w.heap.size + 1) [.int .i64 b0, .int .i64 b1] → Box w' (w.heap.size + 1 + 1) [.int .i64 v0, .int .i64 v1] → Box w' (w.heap.size + 1 + 1 + 1) [.int .i64 u0, .int .i64 u1] → Below w4.heap.size w4 w' → RNum w' (.agg #[.bool m1, .slice o1 n1 c1]) (2) (D0) → WWq 12 #[true, true, true, true, true, true, false, false, true, true, false, true, true, true, false, false, true, true, false, true, true, true, false, false, false, false, false, false] (aq.put (some 11) (.agg #[.bool m1, .slice o1 n1 c1])) w' := by
  intro w26 m1 o1 n1 c1 hB_0 pa_0 pb_0 pv_0 pu_0 hWq_0 f1_0
  rw [HWq.out, HAq.out]
  (try simp only [Act.put]);try simp only [sA,sZ,sS]
  refine reg_all1 6 ?_ (by kernel_rfl) ?_ (fun K hK => ?_)
  rotate_left 1
  ·simp only [gA,gS,gZ]; exact rfl
  ·go_simp
   refine (K1.out _).mono ?_
   rintro e w27 ⟨m2, o2, n2, c2, rfl, f2_0, hb27⟩
   have hB_1 := hB_0.trans (hb27.mono hB_0.size)
   have pa_1 := pa_0.below hb27
   have pb_1 := pb_0.below hb27
   have pv_1 := pv_0.below hb27
   have pu_1 := pu_0.below hb27
   have hWq_1 := hWq_0.trans (hb27.mono hWq_0.size)
   have f1_1 := f1_0.below hb27
   clear hb27 hB_0 pa_0 pb_0 pv_0 pu_0 hWq_0 f1_0
   go_wp2_with fail
   refine hK.out _ _ ⟨pa_1.c0, pa_1.c1, pb_1.c0, pb_1.c1, pv_1.c0, pv_1.c1, pu_1.c0, pu_1.c1⟩ (fun hHeld => ?_)
   clear hK K
   (try simp only [Act.put]);try simp only [sA,sZ,sS]
   rw [← HWq.out]
   exact stq_2f _ m1 o1 n1 c1 m2 o2 n2 c2 hB_1 pa_1 pb_1 pv_1 pu_1 hWq_1 f1_1 f2_0
 try simp only [HAq.out, Act.put, sA,sZ,sS] at stq_1f
 have stq_0f : ∀ (w' : World), Below w.heap.size w w' → Box w' (w.heap.size) [.int .i64 a0, .int .i64 a1] → Box w' (w.heap.size + 1) [.int .i64 b0, .int .i64 b1] → Box w' (w.heap.size + 1 + 1) [.int .i64 v0, .int .i64 v1] → Box w' (w.heap.size + 1 + 1 + 1) [.int .i64 u0, .int .i64 u1] → Below w4.heap.size w4 w' → WWq 13 #[true, true, false, true, true, true, false, false, true, true, false, true, true, true, false, false, true, true, false, true, true, true, false, false, false, false, false, false] aq w' := by
  intro w28 hB_0 pa_0 pb_0 pv_0 pu_0 hWq_0
  rw [HWq.out, HAq.out]
  (try simp only [Act.put]);try simp only [sA,sZ,sS]
  refine reg_all1 2 ?_ (by kernel_rfl) ?_ (fun K hK => ?_)
  rotate_left 1
  ·simp only [gA,gS,gZ]; exact rfl
  ·go_simp
   refine (K0.out _).mono ?_
   rintro e w29 ⟨m1, o1, n1, c1, rfl, f1_0, hb29⟩
   have hB_1 := hB_0.trans (hb29.mono hB_0.size)
   have pa_1 := pa_0.below hb29
   have pb_1 := pb_0.below hb29
   have pv_1 := pv_0.below hb29
   have pu_1 := pu_0.below hb29
   have hWq_1 := hWq_0.trans (hb29.mono hWq_0.size)
   clear hb29 hB_0 pa_0 pb_0 pv_0 pu_0 hWq_0
   go_wp2_with fail
   refine hK.out _ _ ⟨pa_1.c0, pa_1.c1, pb_1.c0, pb_1.c1, pv_1.c0, pv_1.c1, pu_1.c0, pu_1.c1⟩ (fun hHeld => ?_)
   clear hK K
   (try simp only [Act.put]);try simp only [sA,sZ,sS]
   rw [← HWq.out]
   exact stq_1f _ m1 o1 n1 c1 hB_1 pa_1 pb_1 pv_1 pu_1 hWq_1 f1_0
 exact stq_0f _ hB_5 pa_4 pb_3 pv_2 pu_1 hWq_1
theorem Circle_is (a0 a1 b0 b1 v0 v1 u0 u1 : Int) {t : Int} (ha0 : InP a0) (ha1 : InP a1) (hb0 : InP b0) (hb1 : InP b1) (hv0 : InP v0) (hv1 : InP v1) (hu0 : InP u0) (hu1 : InP u1) (h : (inc a0 a1 b0 b1 v0 v1 u0 u1).sign = t) (w : World) :
  Calls Tryz.prog 32 #[.agg #[.int .i64 a0, .int .i64 a1], .agg #[.int .i64 b0, .int .i64 b1], .agg #[.int .i64 v0, .int .i64 v1], .agg #[.int .i64 u0, .int .i64 u1]] w fun e w' => e = .returned (.int .i64 t) ∧ Below w.heap.size w w' :=
 Circle_w a0 a1 b0 b1 v0 v1 u0 u1 _ _ _ _ _ _ t (fun w => Dist2_any a0 a1 u0 u1 ha0 ha1 hu0 hu1 w) (fun w => Area2_any u0 u1 b0 b1 v0 v1 hu0 hu1 hb0 hb1 hv0 hv1 w) (fun w => Dist2_any b0 b1 u0 u1 hb0 hb1 hu0 hu1 w) (fun w => Area2_any u0 u1 v0 v1 a0 a1 hu0 hu1 hv0 hv1 ha0 ha1 w) (fun w => Dist2_any v0 v1 u0 u1 hv0 hv1 hu0 hu1 w) (fun w => Area2_any u0 u1 a0 a1 b0 b1 hu0 hu1 ha0 ha1 hb0 hb1 w)
  (by rw [inc_circle]; exact h) w
end Go.Proofs.YtnabdopnlinklaaGreat
/- cavity's Conflict. Written by tools/cav2.py. -/
namespace Go.MagM
open Go.RowKit
theorem corsN_in {P : List (Int × Int)} {T : TriM} {q : Int × Int} : ∀ n, q ∈ corsN P T n → q ∈ P
 | 0, h => by cases h
 | n + 1, h => by
  rw [corsN] at h
  rcases List.mem_append.1 h with h | h
  ·exact corsN_in n h
  ·unfold corK at h
   split at h
   ·rename_i hc
    simp only [List.mem_singleton] at h
    have hl : (T.v ((corF T + n) % 3)).toNat < P.length := by omega
    rw [h]; unfold ptT ptA
    rw [List.getElem?_eq_getElem hl]
    exact List.getElem_mem hl
   ·cases h
/-- What lies in a row of points. -/
theorem RowN.ptCell {w : World} {base : Nat} {e : TypeId} {n : Nat} {l : List (Int × Int)} {g c : Nat} (h : RowN w base e 2 (.slice (some ⟨g, 0, none⟩) n c) n (ptsCells l)) {j : Nat} {u : Value} (hj : (ptsCells l)[j]? = some u) : w.cell? ⟨g, j, none⟩ = some u := h.cells rfl j u hj
theorem sign_pos {x : Int} : (0 : Int) < x.sign ↔ 0 < x := by
 rcases Int.lt_trichotomy x 0 with h | h | h
 ·rw [Int.sign_eq_neg_one_of_neg h]; omega
 ·subst h; simp
 ·rw [Int.sign_eq_one_of_pos h]; omega
end Go.MagM
namespace Go.Proofs.YtnabdopnlinklaaGreat
open Go.RowKit Go.MagM
/-- Do these corners have p in conflict? -/
def conflictL (l : List (Int × Int)) (p : Int × Int) : Bool := match l with
 | [a, b, c] => decide (0 < inc a.1 a.2 b.1 b.2 c.1 c.2 p.1 p.2)
 | [a, b] => decide (0 < crs a.1 a.2 b.1 b.2 p.1 p.2) || (decide (¬ (p.1 = a.1 ∧ p.2 = a.2) ∧ ¬ (p.1 = b.1 ∧ p.2 = b.2)) && onP p.1 p.2 a.1 a.2 b.1 b.2)
 | _ => false
def conflictM (P : List (Int × Int)) (T : TriM) (p : Int × Int) : Bool := conflictL (cors P T) p
set_option maxRecDepth 100000 in
set_option maxHeartbeats 8000000 in
theorem cvConflict_any {mb pb pc : Nat} {ta : Option Addr} {tc : Nat} {P : List (Int × Int)} {S : List TriM} (t : Nat) (T : TriM) (p0 p1 : Int) (w : World) (h : MeshR w mb pb pc ta tc P S) (hP : InPs P) (hp : InP p0 ∧ InP p1) (hT : S[t]? = some T) :
  Calls Tryz.prog 19 #[.pointer (some ⟨mb, 0, none⟩), .int .i64 (t : Int), .agg #[.int .i64 p0, .int .i64 p1]] w fun e w' => e = .returned (.bool (conflictM P T (p0, p1))) ∧ Below w.heap.size w w' := by
 obtain ⟨w1, hw1, hp1, hb1, hs1⟩ := new_box w _ rfl [.int .i64 p0, .int .i64 p1] 24
 have HC := Lib.hid (cvCorners_any t T w1 (h.below hb1) hT)
 have HIN := Lib.hid (show ∀ q ∈ cors P T, InP q.1 ∧ InP q.2 from fun q hq => hP q (corsN_in 3 hq))
 obtain ⟨r, hr⟩ : ∃ r, conflictM P T (p0, p1) = r := ⟨_, rfl⟩
 obtain ⟨l, hl⟩ : ∃ l, cors P T = l := ⟨_, rfl⟩
 rw [hl] at HC HIN
 rw [hr]
 have HR := Lib.hid (show conflictL l (p0, p1) = r from by rw [← hl]; exact hr)
 have HPP := Lib.hid hp; have HP1 := Lib.hid hp1; have HB1 := Lib.hid hb1
 have HS1 := Lib.hid hs1
 have hl3 : l.length ≤ 3 := by rw [← hl]; exact cors_le P T
 clear h hP hT hr hl hp hp1 hb1 hs1
 go_enter Tryz.func19, Tryz.ntmps19
 go_wp2_with fail
 refine HC.out.mono ?_
 rintro e w2 ⟨v, rfl, hrow, hb2⟩
 clear hw1
 have HB2 := Lib.hid (HB1.out.trans (hb2.mono HB1.out.size))
 have HP2 := Lib.hid (HP1.out.below hb2)
 have HROW := Lib.hid hrow
 clear hb2
 rcases l with _ | ⟨⟨a0, a1⟩, _ | ⟨⟨b0, b1⟩, _ | ⟨⟨c0, c1⟩, _ | ⟨d, l4⟩⟩⟩⟩
 ·obtain ⟨ao, c, rfl⟩ : ∃ ao c, v = .slice ao 0 c := by
   rcases hrow.2 with ⟨h1, -⟩ | ⟨g, cap, cur, h1, -⟩
   ·exact ⟨_, _, h1⟩
   ·exact ⟨_, _, h1⟩
  clear hrow
  go_wp2
  go_ret
  exact ⟨by rw [← HR.out]; rfl, HB2.out⟩
 ·obtain ⟨g, c, rfl⟩ : ∃ g c, v = .slice (some ⟨g, 0, none⟩) 1 c := by
   rcases hrow.2 with ⟨-, h1⟩ | ⟨g, cap, cur, h1, -⟩
   ·cases h1
   ·exact ⟨g, cap, h1⟩
  clear hrow
  go_wp2
  go_ret
  exact ⟨by rw [← HR.out]; rfl, HB2.out⟩
 ·obtain ⟨g, c, rfl⟩ : ∃ g c, v = .slice (some ⟨g, 0, none⟩) 2 c := by
   rcases hrow.2 with ⟨-, h1⟩ | ⟨g, cap, cur, h1, -⟩
   ·cases h1
   ·exact ⟨g, cap, h1⟩
  have hA := HIN.out (a0, a1) (by simp)
  have hB := HIN.out (b0, b1) (by simp)
  have HO := Lib.hid (fun W => Orient_any a0 a1 b0 b1 p0 p1 hA.1 hA.2 hB.1 hB.2 HPP.out.1 HPP.out.2 W)
  have HBT := Lib.hid (fun W => Between_any p0 p1 a0 a1 b0 b1 _ (fun W => On_is p0 p1 a0 a1 b0 b1 HPP.out.1 HPP.out.2 hA.1 hA.2 hB.1 hB.2 _ rfl W) W)
  have K0 := Lib.hid (show w2.cell? ⟨g, 0, none⟩ = some (.int .i64 a0) ∧ w2.cell? ⟨g, 1, none⟩ = some (.int .i64 a1) ∧ w2.cell? ⟨g, 2, none⟩ = some (.int .i64 b0) ∧ w2.cell? ⟨g, 3, none⟩ = some (.int .i64 b1) ∧ w2.cell? ⟨w.heap.size, 0, none⟩ = some (.int .i64 p0) ∧ w2.cell? ⟨w.heap.size, 1, none⟩ = some (.int .i64 p1) from ⟨HROW.out.ptCell rfl, HROW.out.ptCell rfl, HROW.out.ptCell rfl, HROW.out.ptCell rfl, HP2.out.c 0 _ rfl, HP2.out.c 1 _ rfl⟩)
  obtain ⟨s, hs⟩ : ∃ s, (crs a0 a1 b0 b1 p0 p1).sign = s := ⟨_, rfl⟩
  rw [hs] at HO
  have hcs : decide (0 < crs a0 a1 b0 b1 p0 p1) = decide (0 < s) := by rw [← hs, decide_eq_decide]; exact sign_pos.symm
  obtain ⟨q, hq⟩ : ∃ q, (decide (¬ (p0 = a0 ∧ p1 = a1) ∧ ¬ (p0 = b0 ∧ p1 = b1)) && onP p0 p1 a0 a1 b0 b1) = q := ⟨_, rfl⟩
  rw [hq] at HBT
  have HRQ := Lib.hid (show (decide (0 < s) || q) = r by rw [← HR.out, ← hq, ← hcs]; rfl)
  clear hrow hA hB hs hcs hq
  by_cases hs0 : 0 < s
  ·have e1 : decide (0 < s) = true := decide_eq_true hs0
   have HRT := Lib.hid (show true = r by rw [← HRQ.out, e1]; rfl)
   clear hs0
   go_wp2
   refine wp_region_noPanic ?_
   refine wp_region_held_drew (S := fun w' => w'.cell? ⟨g, 0, none⟩ = some (.int .i64 a0) ∧ w'.cell? ⟨g, 1, none⟩ = some (.int .i64 a1) ∧ w'.cell? ⟨g, 2, none⟩ = some (.int .i64 b0) ∧ w'.cell? ⟨g, 3, none⟩ = some (.int .i64 b1) ∧ w'.cell? ⟨w.heap.size, 0, none⟩ = some (.int .i64 p0) ∧ w'.cell? ⟨w.heap.size, 1, none⟩ = some (.int .i64 p1)) (by kernel_rfl) (K0.out) (fun hHeld => ?_)
   refine rU 0 _ _ ?_
   (try simp only [Act.put]);try simp only [sA,sZ,sS]
   refine rU 1 _ _ ?_
   (try simp only [Act.put]);try simp only [sA,sZ,sS]
   refine rU 2 _ _ ?_
   (try simp only [Act.put]);try simp only [sA,sZ,sS]
   refine rU 3 _ _ ?_
   (try simp only [Act.put]);try simp only [sA,sZ,sS]
   refine rU 4 _ _ ?_
   (try simp only [Act.put]);try simp only [sA,sZ,sS]
   refine rU 5 _ _ ?_
   (try simp only [Act.put]);try simp only [sA,sZ,sS]
   refine rU 6 _ _ ?_
   (try simp only [Act.put]);try simp only [sA,sZ,sS]
   refine reg_call 7 ?_ (by kernel_rfl) ?_ (fun K hK => ?_);rotate_left 1
   ·simp only [gA,gS,gZ]; exact rfl
   go_simp
   refine (HO.out _).mono ?_
   rintro e w3 ⟨rfl, hb3⟩
   have HB3 := Lib.hid hb3; clear hb3
   refine hK.out _ _ (⟨(HB3.out.cell (World.block_lt_of_cell? _ _ K0.out.1)).trans K0.out.1, (HB3.out.cell (World.block_lt_of_cell? _ _ K0.out.2.1)).trans K0.out.2.1, (HB3.out.cell (World.block_lt_of_cell? _ _ K0.out.2.2.1)).trans K0.out.2.2.1, (HB3.out.cell (World.block_lt_of_cell? _ _ K0.out.2.2.2.1)).trans K0.out.2.2.2.1, (HB3.out.cell (World.block_lt_of_cell? _ _ K0.out.2.2.2.2.1)).trans K0.out.2.2.2.2.1, (HB3.out.cell (World.block_lt_of_cell? _ _ K0.out.2.2.2.2.2)).trans K0.out.2.2.2.2.2⟩) (fun hHeld => ?_)
   clear hK K
   (try simp only [Act.put]);try simp only [sA,sZ,sS]
   refine rU 8 _ _ ?_
   (try simp only [Act.put]);try simp only [sA,sZ,sS]
   refine rU 9 _ _ ?_
   (try simp only [Act.put]);try simp only [sA,sZ,sS]
   refine rS 10 ?_ ?_ ?_ ?_;rotate_left 1
   ·simp only [gA,gS,gZ]; exact rfl
   ·rfl
   (try simp only [Act.put]);try simp only [sA,sZ,sS]
   refine rS 11 ?_ ?_ ?_ ?_;rotate_left 1
   ·simp only [gA,gS,gZ]; exact rfl
   ·rfl
   (try simp only [Act.put]);try simp only [sA,sZ,sS]
   refine rS 12 ?_ ?_ ?_ ?_;rotate_left 1
   ·simp only [gA,gS,gZ]; exact rfl
   ·rfl
   (try simp only [Act.put]);try simp only [sA,sZ,sS]
   refine rS 13 ?_ ?_ ?_ ?_;rotate_left 1
   ·simp only [gA,gS,gZ]; exact rfl
   ·rfl
   (try simp only [Act.put]);try simp only [sA,sZ,sS]
   refine rS 14 ?_ ?_ ?_ ?_;rotate_left 1
   ·simp only [gA,gS,gZ]; exact rfl
   ·rfl
   (try simp only [Act.put]);try simp only [sA,sZ,sS]
   refine rS 15 ?_ ?_ ?_ ?_;rotate_left 1
   ·simp only [gA,gS,gZ]; exact rfl
   ·rfl
   (try simp only [Act.put]);try simp only [sA,sZ,sS]
   refine rS 16 ?_ ?_ ?_ ?_;rotate_left 1
   ·simp only [gA,gS,gZ]; exact rfl
   ·rfl
   (try simp only [Act.put]);try simp only [sA,sZ,sS]
   refine rS 17 ?_ ?_ ?_ ?_;rotate_left 1
   ·simp only [gA,gS,gZ]; exact rfl
   ·rfl
   (try simp only [Act.put]);try simp only [sA,sZ,sS]
   refine rU 18 _ _ ?_
   (try simp only [Act.put]);try simp only [sA,sZ,sS]
   refine rU 19 _ _ ?_
   (try simp only [Act.put]);try simp only [sA,sZ,sS]
   refine wpAnyH_done (by kernel_rfl) ?_ _
   refine NoPanic.normal ?_
   go_wp2
   go_ret
   exact ⟨by rw [← HRT.out]; rfl, HB2.out.drew'.trans (HB3.out.mono HB2.out.size)⟩
  ·have e1 : decide (0 < s) = false := decide_eq_false hs0
   have HRT := Lib.hid (show q = r by rw [← HRQ.out, e1]; rfl)
   clear hs0
   go_wp2
   refine wp_region_noPanic ?_
   refine wp_region_held_drew (S := fun w' => w'.cell? ⟨g, 0, none⟩ = some (.int .i64 a0) ∧ w'.cell? ⟨g, 1, none⟩ = some (.int .i64 a1) ∧ w'.cell? ⟨g, 2, none⟩ = some (.int .i64 b0) ∧ w'.cell? ⟨g, 3, none⟩ = some (.int .i64 b1) ∧ w'.cell? ⟨w.heap.size, 0, none⟩ = some (.int .i64 p0) ∧ w'.cell? ⟨w.heap.size, 1, none⟩ = some (.int .i64 p1)) (by kernel_rfl) (K0.out) (fun hHeld => ?_)
   refine rU 0 _ _ ?_
   (try simp only [Act.put]);try simp only [sA,sZ,sS]
   refine rU 1 _ _ ?_
   (try simp only [Act.put]);try simp only [sA,sZ,sS]
   refine rU 2 _ _ ?_
   (try simp only [Act.put]);try simp only [sA,sZ,sS]
   refine rU 3 _ _ ?_
   (try simp only [Act.put]);try simp only [sA,sZ,sS]
   refine rU 4 _ _ ?_
   (try simp only [Act.put]);try simp only [sA,sZ,sS]
   refine rU 5 _ _ ?_
   (try simp only [Act.put]);try simp only [sA,sZ,sS]
   refine rU 6 _ _ ?_
   (try simp only [Act.put]);try simp only [sA,sZ,sS]
   refine reg_call 7 ?_ (by kernel_rfl) ?_ (fun K hK => ?_);rotate_left 1
   ·simp only [gA,gS,gZ]; exact rfl
   go_simp
   refine (HO.out _).mono ?_
   rintro e w3 ⟨rfl, hb3⟩
   have HB3 := Lib.hid hb3; clear hb3
   have K1 := Lib.hid (show w3.cell? ⟨g, 0, none⟩ = some (.int .i64 a0) ∧ w3.cell? ⟨g, 1, none⟩ = some (.int .i64 a1) ∧ w3.cell? ⟨g, 2, none⟩ = some (.int .i64 b0) ∧ w3.cell? ⟨g, 3, none⟩ = some (.int .i64 b1) ∧ w3.cell? ⟨w.heap.size, 0, none⟩ = some (.int .i64 p0) ∧ w3.cell? ⟨w.heap.size, 1, none⟩ = some (.int .i64 p1) from ⟨(HB3.out.cell (World.block_lt_of_cell? _ _ K0.out.1)).trans K0.out.1, (HB3.out.cell (World.block_lt_of_cell? _ _ K0.out.2.1)).trans K0.out.2.1, (HB3.out.cell (World.block_lt_of_cell? _ _ K0.out.2.2.1)).trans K0.out.2.2.1, (HB3.out.cell (World.block_lt_of_cell? _ _ K0.out.2.2.2.1)).trans K0.out.2.2.2.1, (HB3.out.cell (World.block_lt_of_cell? _ _ K0.out.2.2.2.2.1)).trans K0.out.2.2.2.2.1, (HB3.out.cell (World.block_lt_of_cell? _ _ K0.out.2.2.2.2.2)).trans K0.out.2.2.2.2.2⟩)
   refine hK.out _ _ (K1.out) (fun hHeld => ?_)
   clear hK K
   (try simp only [Act.put]);try simp only [sA,sZ,sS]
   refine rU 8 _ _ ?_
   (try simp only [Act.put]);try simp only [sA,sZ,sS]
   refine rU 9 _ _ ?_
   (try simp only [Act.put]);try simp only [sA,sZ,sS]
   refine rU 10 _ _ ?_
   (try simp only [Act.put]);try simp only [sA,sZ,sS]
   refine rU 11 _ _ ?_
   (try simp only [Act.put]);try simp only [sA,sZ,sS]
   refine rU 12 _ _ ?_
   (try simp only [Act.put]);try simp only [sA,sZ,sS]
   refine rU 13 _ _ ?_
   (try simp only [Act.put]);try simp only [sA,sZ,sS]
   refine rU 14 _ _ ?_
   (try simp only [Act.put]);try simp only [sA,sZ,sS]
   refine rU 15 _ _ ?_
   (try simp only [Act.put]);try simp only [sA,sZ,sS]
   refine rU 16 _ _ ?_
   (try simp only [Act.put]);try simp only [sA,sZ,sS]
   refine reg_call 17 ?_ (by kernel_rfl) ?_ (fun K hK => ?_);rotate_left 1
   ·simp only [gA,gS,gZ]; exact rfl
   go_simp
   refine (HBT.out _).mono ?_
   rintro e w4 ⟨rfl, hb4⟩
   have HB4 := Lib.hid hb4; clear hb4
   refine hK.out _ _ (⟨(HB4.out.cell (World.block_lt_of_cell? _ _ K1.out.1)).trans K1.out.1, (HB4.out.cell (World.block_lt_of_cell? _ _ K1.out.2.1)).trans K1.out.2.1, (HB4.out.cell (World.block_lt_of_cell? _ _ K1.out.2.2.1)).trans K1.out.2.2.1, (HB4.out.cell (World.block_lt_of_cell? _ _ K1.out.2.2.2.1)).trans K1.out.2.2.2.1, (HB4.out.cell (World.block_lt_of_cell? _ _ K1.out.2.2.2.2.1)).trans K1.out.2.2.2.2.1, (HB4.out.cell (World.block_lt_of_cell? _ _ K1.out.2.2.2.2.2)).trans K1.out.2.2.2.2.2⟩) (fun hHeld => ?_)
   clear hK K
   (try simp only [Act.put]);try simp only [sA,sZ,sS]
   refine rU 18 _ _ ?_
   (try simp only [Act.put]);try simp only [sA,sZ,sS]
   refine rU 19 _ _ ?_
   (try simp only [Act.put]);try simp only [sA,sZ,sS]
   refine wpAnyH_done (by kernel_rfl) ?_ _
   refine NoPanic.normal ?_
   go_wp2
   go_ret
   exact ⟨by rw [← HRT.out]; rfl, (HB2.out.drew'.trans (HB3.out.mono HB2.out.size)).trans (HB4.out.mono (HB2.out.drew'.trans (HB3.out.mono HB2.out.size)).size)⟩
 ·obtain ⟨g, c, rfl⟩ : ∃ g c, v = .slice (some ⟨g, 0, none⟩) 3 c := by
   rcases hrow.2 with ⟨-, h1⟩ | ⟨g, cap, cur, h1, -⟩
   ·cases h1
   ·exact ⟨g, cap, h1⟩
  have hA := HIN.out (a0, a1) (by simp)
  have hB := HIN.out (b0, b1) (by simp)
  have hC := HIN.out (c0, c1) (by simp)
  obtain ⟨s, hs⟩ : ∃ s, (inc a0 a1 b0 b1 c0 c1 p0 p1).sign = s := ⟨_, rfl⟩
  have HO := Lib.hid (fun W => Circle_is a0 a1 b0 b1 c0 c1 p0 p1 hA.1 hA.2 hB.1 hB.2 hC.1 hC.2 HPP.out.1 HPP.out.2 hs W)
  have HRQ := Lib.hid (show decide (0 < s) = r by rw [← HR.out, ← hs, decide_eq_decide.2 sign_pos]; rfl)
  have K0 := Lib.hid (show w2.cell? ⟨g, 0, none⟩ = some (.int .i64 a0) ∧ w2.cell? ⟨g, 1, none⟩ = some (.int .i64 a1) ∧ w2.cell? ⟨g, 2, none⟩ = some (.int .i64 b0) ∧ w2.cell? ⟨g, 3, none⟩ = some (.int .i64 b1) ∧ w2.cell? ⟨g, 4, none⟩ = some (.int .i64 c0) ∧ w2.cell? ⟨g, 5, none⟩ = some (.int .i64 c1) ∧ w2.cell? ⟨w.heap.size, 0, none⟩ = some (.int .i64 p0) ∧ w2.cell? ⟨w.heap.size, 1, none⟩ = some (.int .i64 p1) from ⟨HROW.out.ptCell rfl, HROW.out.ptCell rfl, HROW.out.ptCell rfl, HROW.out.ptCell rfl, HROW.out.ptCell rfl, HROW.out.ptCell rfl, HP2.out.c 0 _ rfl, HP2.out.c 1 _ rfl⟩)
  clear hrow hA hB hC hs
  go_wp2
  refine wp_region_noPanic ?_
  refine wp_region_held_drew (S := fun w' => w'.cell? ⟨g, 0, none⟩ = some (.int .i64 a0) ∧ w'.cell? ⟨g, 1, none⟩ = some (.int .i64 a1) ∧ w'.cell? ⟨g, 2, none⟩ = some (.int .i64 b0) ∧ w'.cell? ⟨g, 3, none⟩ = some (.int .i64 b1) ∧ w'.cell? ⟨g, 4, none⟩ = some (.int .i64 c0) ∧ w'.cell? ⟨g, 5, none⟩ = some (.int .i64 c1) ∧ w'.cell? ⟨w.heap.size, 0, none⟩ = some (.int .i64 p0) ∧ w'.cell? ⟨w.heap.size, 1, none⟩ = some (.int .i64 p1)) (by kernel_rfl) (K0.out) (fun hHeld => ?_)
  refine rU 0 _ _ ?_
  (try simp only [Act.put]);try simp only [sA,sZ,sS]
  refine rU 1 _ _ ?_
  (try simp only [Act.put]);try simp only [sA,sZ,sS]
  refine rU 2 _ _ ?_
  (try simp only [Act.put]);try simp only [sA,sZ,sS]
  refine rU 3 _ _ ?_
  (try simp only [Act.put]);try simp only [sA,sZ,sS]
  refine rU 4 _ _ ?_
  (try simp only [Act.put]);try simp only [sA,sZ,sS]
  refine rU 5 _ _ ?_
  (try simp only [Act.put]);try simp only [sA,sZ,sS]
  refine rU 6 _ _ ?_
  (try simp only [Act.put]);try simp only [sA,sZ,sS]
  refine rU 7 _ _ ?_
  (try simp only [Act.put]);try simp only [sA,sZ,sS]
  refine rU 8 _ _ ?_
  (try simp only [Act.put]);try simp only [sA,sZ,sS]
  refine rU 9 _ _ ?_
  (try simp only [Act.put]);try simp only [sA,sZ,sS]
  refine reg_call 10 ?_ (by kernel_rfl) ?_ (fun K hK => ?_);rotate_left 1
  ·simp only [gA,gS,gZ]; exact rfl
  go_simp
  refine (HO.out _).mono ?_
  rintro e w3 ⟨rfl, hb3⟩
  have HB3 := Lib.hid hb3; clear hb3
  refine hK.out _ _ (⟨(HB3.out.cell (World.block_lt_of_cell? _ _ K0.out.1)).trans K0.out.1, (HB3.out.cell (World.block_lt_of_cell? _ _ K0.out.2.1)).trans K0.out.2.1, (HB3.out.cell (World.block_lt_of_cell? _ _ K0.out.2.2.1)).trans K0.out.2.2.1, (HB3.out.cell (World.block_lt_of_cell? _ _ K0.out.2.2.2.1)).trans K0.out.2.2.2.1, (HB3.out.cell (World.block_lt_of_cell? _ _ K0.out.2.2.2.2.1)).trans K0.out.2.2.2.2.1, (HB3.out.cell (World.block_lt_of_cell? _ _ K0.out.2.2.2.2.2.1)).trans K0.out.2.2.2.2.2.1, (HB3.out.cell (World.block_lt_of_cell? _ _ K0.out.2.2.2.2.2.2.1)).trans K0.out.2.2.2.2.2.2.1, (HB3.out.cell (World.block_lt_of_cell? _ _ K0.out.2.2.2.2.2.2.2)).trans K0.out.2.2.2.2.2.2.2⟩) (fun hHeld => ?_)
  clear hK K
  (try simp only [Act.put]);try simp only [sA,sZ,sS]
  refine rU 11 _ _ ?_
  (try simp only [Act.put]);try simp only [sA,sZ,sS]
  refine rU 12 _ _ ?_
  (try simp only [Act.put]);try simp only [sA,sZ,sS]
  refine wpAnyH_done (by kernel_rfl) ?_ _
  refine NoPanic.normal ?_
  go_wp2
  go_ret
  exact ⟨by rw [← HRQ.out]; rfl, HB2.out.drew'.trans (HB3.out.mono HB2.out.size)⟩
 ·simp at hl3
end Go.Proofs.YtnabdopnlinklaaGreat
/- A hole: its map. -/
namespace Go.MagM
/-- The map's entries. -/
def hasE (ts : List Int) : List (Value × Value) := ts.map fun t => (.int .i64 t, .agg #[])
end Go.MagM
namespace Go.Proofs.YtnabdopnlinklaaGreat
open Go.RowKit Go.MagM Go.Maps
/-- A triangle is looked up. -/
theorem hole_look {w : World} {b : Nat} {ts : List Int} (h : MapB Tryz.prog 3 w b (hasE ts)) {t : Int} (ht : -1000000 ≤ t ∧ t ≤ 1000000) :
  (Instr.lookup 110 (.map (some b)) (.int .i64 t) true).run Tryz.prog w = .ok (.tuple #[.agg #[], .bool (decide (t ∈ ts))]) w := by
 rcases h.look keyedI Tryz.underlying110 (keyI_of ht) (z := .agg #[]) (by kernel_rfl) true with ⟨v, hv, hr⟩ | ⟨hno, hr⟩
 ·obtain ⟨x, hx, e⟩ := List.mem_map.1 hv
  simp only [Prod.mk.injEq, Value.int.injEq, true_and] at e
  obtain ⟨rfl, rfl⟩ := e
  rw [hr, decide_eq_true hx]; rfl
 ·rw [hr, decide_eq_false (fun hx => hno (.agg #[]) (List.mem_map.2 ⟨t, hx, rfl⟩))]; rfl
/-- A triangle comes. -/
theorem hole_store {w : World} {b : Nat} {ts : List Int} (h : MapB Tryz.prog 3 w b (hasE ts)) {t : Int} (ht : -1000000 ≤ t ∧ t ≤ 1000000) (hno : t ∉ ts) :
  ∃ w', (Instr.mapUpdate 110 (.map (some b)) (.int .i64 t) (.agg #[])).run Tryz.prog w = .ok () w' ∧ Turned w w' b ∧ MapB Tryz.prog 3 w' b (hasE (ts ++ [t])) := by
 obtain ⟨w', m', h1, h2, h3, h4⟩ := h.store keyedI Tryz.underlying110 (keyI_of ht) (.agg #[])
 refine ⟨w', h1, h2, ?_⟩
 rcases h4 with ⟨-, rfl⟩ | ⟨j, u, hj, -⟩
 ·unfold hasE; rw [List.map_append]; exact h3
 ·exfalso
  obtain ⟨x, hx, e⟩ := List.mem_map.1 (List.mem_of_getElem? hj)
  simp only [Prod.mk.injEq, Value.int.injEq, true_and] at e
  obtain ⟨rfl, -⟩ := e
  exact hno hx
set_option maxRecDepth 100000 in
set_option maxHeartbeats 4000000 in
theorem cvHolds_any (hb b : Nat) (ts : List Int) (t : Int) (w : World) (hc : w.cell? ⟨hb, 2, none⟩ = some (.map (some b))) (hm : MapB Tryz.prog 3 w b (hasE ts)) (ht : -1000000 ≤ t ∧ t ≤ 1000000) :
  Calls Tryz.prog 105 #[.pointer (some ⟨hb, 0, none⟩), .int .i64 t] w fun e w' => e = .returned (.bool (decide (t ∈ ts))) ∧ Below w.heap.size w w' := by
 obtain ⟨w1, hw1, hp, hb1, hs1⟩ := new_box w _ rfl [] 201
 have hlk := hole_look hm ht
 obtain ⟨q, hq⟩ : ∃ q, decide (t ∈ ts) = q := ⟨_, rfl⟩
 rw [hq] at hlk ⊢
 have HB := Lib.hid hb1
 clear hb1 hs1 hp hm hq
 go_enter Tryz.func105, Tryz.ntmps105
 go_wp2
 go_ret
 exact ⟨rfl, HB.out⟩
end Go.Proofs.YtnabdopnlinklaaGreat
/- A hole: what it takes. -/
namespace Go.MagM
/-- What a hole has behind take. -/
def takeM (P : List (Int × Int)) (T : TriM) (t : Int) (ts : List Int) : List Int := if 0 < (cors P T).length ∧ t ∉ ts then ts ++ [t] else ts
end Go.MagM
namespace Go.Proofs.YtnabdopnlinklaaGreat
open Go.RowKit Go.MagM Go.Maps
/-- A hole lies at hb: its list, its map. -/
structure HoleR (w : World) (lo hb mb b : Nat) (v : Value) (ts : List Int) : Prop where
 box : Box w hb [.pointer (some ⟨mb, 0, none⟩), v, .map (some b)]
 row : RowN w lo 3 1 v ts.length (intCells ts)
 map : MapB Tryz.prog 3 w b (hasE ts)
 low : lo ≤ hb ∧ lo ≤ b ∧ hb ≠ b ∧ v.ownBlock ≠ some hb ∧ v.ownBlock ≠ some b
 short : ts.length ≤ 1000000
theorem HoleR.below {w w' : World} {lo hb mb b : Nat} {v : Value} {ts : List Int} (h : HoleR w lo hb mb b v ts) (hw : Below w.heap.size w w') : HoleR w' lo hb mb b v ts :=
 ⟨h.box.below hw, h.row.below hw, h.map.below hw, h.low, h.short⟩
/-- But for the hole's own blocks all stays; its list stays where it was or lies behind. -/
structure KeepH (w w' : World) (hb b : Nat) (v v' : Value) : Prop where
 block : ∀ g, g < w.heap.size → g ≠ hb → g ≠ b → v.ownBlock ≠ some g → w'.heap[g]? = w.heap[g]?
 own : v'.ownBlock = v.ownBlock ∨ ∀ k, v'.ownBlock = some k → w.heap.size ≤ k
 size : w.heap.size ≤ w'.heap.size
theorem KeepH.of_below {w w' : World} {hb b : Nat} {v : Value} (h : Below w.heap.size w w') : KeepH w w' hb b v v :=
 ⟨fun g hg _ _ _ => h.block g hg, .inl rfl, h.size⟩
theorem KeepH.trans {w w1 w2 : World} {hb b : Nat} {v v1 v2 : Value} (h : KeepH w w1 hb b v v1) (h2 : KeepH w1 w2 hb b v1 v2) : KeepH w w2 hb b v v2 := by
 have hs := h.size
 refine ⟨fun g hg a c d => (h2.block g (by omega) a c ?_).trans (h.block g hg a c d), ?_, Nat.le_trans h.size h2.size⟩
 ·rcases h.own with e | e
  ·rw [e]; exact d
  ·intro k; have := e _ k; omega
 ·rcases h2.own with e | e
  ·rcases h.own with e1 | e1
   ·exact .inl (e.trans e1)
   ·exact .inr fun k hk => e1 k (e ▸ hk)
  ·exact .inr fun k hk => by have := e k hk; omega
theorem Box.keepH {w w' : World} {hb b g : Nat} {v v' : Value} {vs : List Value} (h : Box w g vs) (hk : KeepH w w' hb b v v') (hl : g < w.heap.size) (h1 : g ≠ hb) (h2 : g ≠ b) (h3 : v.ownBlock ≠ some g) : Box w' g vs := h.same (hk.block g hl h1 h2 h3)
set_option maxRecDepth 100000 in
set_option maxHeartbeats 8000000 in
theorem cvTake_any {w0 : World} {mb pb pc hb b : Nat} {ta : Option Addr} {tc : Nat} {P : List (Int × Int)} {S : List TriM} {v : Value} {ts : List Int} (t : Nat) (T : TriM) (w : World) (h : MeshR w0 mb pb pc ta tc P S) (hB : Below w0.heap.size w0 w) (hH : HoleR w w0.heap.size hb mb b v ts) (hT : S[t]? = some T) (hts : ts.length < 1000000) :
  Calls Tryz.prog 103 #[.pointer (some ⟨hb, 0, none⟩), .int .i64 (t : Int)] w fun e w' => e = .returned (.tuple #[]) ∧ (∃ v', HoleR w' w0.heap.size hb mb b v' (takeM P T t ts) ∧ KeepH w w' hb b v v') ∧ Below w0.heap.size w0 w' := by
 have htl : t < S.length := (List.getElem?_eq_some_iff.1 hT).1
 have htr : -1000000 ≤ (t : Int) ∧ (t : Int) ≤ 1000000 := by have := h.short.2; omega
 have HC := Lib.hid (cvCorners_any t T w (h.below hB) hT)
 have HB := Lib.hid hB; have HH := Lib.hid hH; have HTR := Lib.hid htr; have HTS := Lib.hid hts
 have b0 := hH.box.c0
 obtain ⟨i0, hi, hz0, hz1, hz2⟩ := info_parts infoI
 have HI := Lib.hid hi; have HZ0 := Lib.hid hz0; have HZ1 := Lib.hid hz1; have HZ2 := Lib.hid hz2
 clear hi hz0 hz1 hz2 h hB hH hT htl htr hts
 go_enter Tryz.func103, Tryz.ntmps103
 go_wp2_with fail
 refine HC.out.mono ?_
 rintro e w2 ⟨cv, rfl, hrow, hb2⟩
 clear b0
 have HH2 := Lib.hid (HH.out.below hb2)
 have HB2 := Lib.hid (HB.out.trans (hb2.mono HB.out.size))
 have BW2 := Lib.hid hb2
 clear hb2
 obtain ⟨n, hn⟩ : ∃ n, (cors P T).length = n := ⟨_, rfl⟩
 rw [hn] at hrow
 obtain ⟨ao, c, rfl⟩ : ∃ ao c, cv = .slice ao n c := by
  rcases hrow.2 with ⟨h1, h2⟩ | ⟨g, cap, cur, h1, -⟩
  ·exact ⟨_, _, by rw [h1, h2]⟩
  ·exact ⟨_, _, h1⟩
 have HN := Lib.hid hn
 clear hrow hn
 by_cases hn0 : 0 < n
 ·have e1 : decide ((0 : Int) < (n : Int)) = true := decide_eq_true (by omega)
  have e2 : decide (0 < n) = true := decide_eq_true hn0
  have HN0 := Lib.hid hn0
  clear hn0
  go_wp2_with fail
  refine (cvHolds_any hb b ts t w2 HH2.out.box.c2 HH2.out.map HTR.out).mono ?_
  rintro e w3 ⟨rfl, hb3⟩
  have HH3 := Lib.hid (HH2.out.below hb3)
  have HB3 := Lib.hid (HB2.out.trans (hb3.mono HB2.out.size))
  have BW3 := Lib.hid (BW2.out.trans (hb3.mono BW2.out.size))
  clear hb3
  by_cases hin : (t : Int) ∈ ts
  ·have e3 : decide ((t : Int) ∈ ts) = true := decide_eq_true hin
   rw [e3]
   have HM := Lib.hid (show takeM P T t ts = ts by unfold takeM; rw [if_neg (by simp [hin])])
   clear hin e3
   go_wp2
   go_end0
   exact ⟨rfl, ⟨v, by rw [HM.out]; exact HH3.out, KeepH.of_below BW3.out⟩, HB3.out⟩
  ·have e3 : decide ((t : Int) ∈ ts) = false := decide_eq_false hin
   rw [e3]
   have HM := Lib.hid (show takeM P T t ts = ts ++ [(t : Int)] by unfold takeM; rw [if_pos ⟨by rw [HN.out]; exact HN0.out, hin⟩])
   have HIN := Lib.hid hin
   clear hin e3
   have hz := HH3.out.low
   have hzb := HB3.out.size
   have hts := HTS.out
   have d1 := HH3.out.box.c1
   obtain ⟨w4, hw4, pz, hb4, hs4⟩ := new_box w3 _ rfl [.int .i64 (t : Int)] 3
   have H4 := HH3.out.below hb4
   obtain ⟨v1, w5, hrun, rown, hgrow, hkept⟩ := run_append_row (P := Tryz.prog) w4 w0.heap.size 43 43 3 i0 (.int .i64 0) 1 8 (by kernel_rfl) HI.out HZ0.out HZ1.out HZ2.out rfl (by intro u hu; simp [Value.cells] at hu; subst hu; exact NoWord.int _) _ ts.length _ H4.row ⟨w3.heap.size, 0, none⟩ 1 1 [.int .i64 (t : Int)] (by omega) rfl pz.news (by intro u hu; simp at hu; subst hu; rfl) (by intro u hu; simp at hu; subst hu; exact NoWord.int _) (by unfold maxLen; omega) (by omega) (by omega)
   obtain ⟨v2, w5', hrun2, -, -, hwh⟩ := run_append_where (P := Tryz.prog) w4 w0.heap.size 43 43 3 i0 (.int .i64 0) 1 8 (by kernel_rfl) HI.out HZ0.out HZ1.out HZ2.out rfl _ ts.length _ H4.row.own ⟨w3.heap.size, 0, none⟩ 1 1 [.int .i64 (t : Int)] (by omega) rfl pz.news (by intro u hu; simp at hu; subst hu; rfl) (by unfold maxLen; omega) (by omega) (by omega)
   obtain ⟨rfl, rfl⟩ : v1 = v2 ∧ w5 = w5' := by
    have e := Result.ok.inj (hrun.symm.trans hrun2)
    exact ⟨e.1, e.2⟩
   obtain ⟨ln, hln⟩ : ∃ ln, ts.length + 1 = ln := ⟨_, rfl⟩
   obtain ⟨gv, gc, rfl⟩ : ∃ g c, v1 = .slice (some ⟨g, 0, none⟩) ln c := by
    rcases rown.2 with ⟨-, h1⟩ | ⟨g, cap, cur, h1, -⟩
    ·omega
    ·exact ⟨g, cap, by rw [← hln]; exact h1⟩
   have hv1 : (Value.slice (some ⟨gv, 0, none⟩) ln gc).ownBlock ≠ some hb ∧ (Value.slice (some ⟨gv, 0, none⟩) ln gc).ownBlock ≠ some b := by
    rcases hwh with e | e
    ·rw [e]; exact hz.2.2.2
    ·have l1 := H4.box.lt
     have l2 := H4.map.lt
     exact ⟨fun k => by have := e _ k; omega, fun k => by have := e _ k; omega⟩
   have hbx5 := H4.box.grown hgrow hz.2.2.2.1 H4.box.lt
   have hmp5 := H4.map.block (hgrow.block b H4.map.lt (fun k => hz.2.2.2.2 k.symm))
   have hB5 : Below w0.heap.size w0 w5 := (HB3.out.trans (hb4.mono (by omega))).grown hgrow (by omega) (fun k hk => (H4.row.lt k hk).1)
   obtain ⟨w6, hw6⟩ : ∃ w6, w5.setCell ⟨hb, 1, none⟩ (.slice (some ⟨gv, 0, none⟩) ln gc) = w6 := ⟨_, rfl⟩
   have hbx6 : Box w6 hb [.pointer (some ⟨mb, 0, none⟩), .slice (some ⟨gv, 0, none⟩) ln gc, .map (some b)] := by rw [← hw6]; exact hbx5.set 1 _
   have hmp6 : MapB Tryz.prog 3 w6 b (hasE ts) := by rw [← hw6]; exact hmp5.block (heap_set_far _ _ _ _ _ (Ne.symm hz.2.2.1))
   have hrow6 := rown.block (w' := w6) (fun k hk _ => by rw [← hw6]; exact heap_set_far _ _ _ _ _ (fun e => hv1.1 (e ▸ hk)))
   have hB6 : Below w0.heap.size w0 w6 := by rw [← hw6]; exact hB5.setCell (p := ⟨hb, 1, none⟩) hz.1 _
   obtain ⟨w7, hst, htu, hmp7⟩ := hole_store hmp6 HTR.out HIN.out
   have H7 : HoleR w7 w0.heap.size hb mb b (.slice (some ⟨gv, 0, none⟩) ln gc) (takeM P T t ts) := by
    rw [HM.out]
    refine ⟨hbx6.turned htu hz.2.2.1, ?_, hmp7, ⟨hz.1, hz.2.1, hz.2.2.1, hv1⟩, by rw [List.length_append]; simp; omega⟩
    have := hrow6.turned htu (fun k hk e => hv1.2 (e ▸ hk))
    rw [List.length_append]; unfold intCells; rw [List.map_append]; exact this
   have b34 : Below w.heap.size w w4 := BW3.out.trans (hb4.mono BW3.out.size)
   have hown : (Value.slice (some ⟨gv, 0, none⟩) ln gc).ownBlock = v.ownBlock ∨ ∀ k, (Value.slice (some ⟨gv, 0, none⟩) ln gc).ownBlock = some k → w.heap.size ≤ k := by
    rcases hwh with e | e
    ·exact .inl e
    ·exact .inr fun k hk => by have := e k hk; have := b34.size; omega
   have KH := Lib.hid (show KeepH w w7 hb b v (.slice (some ⟨gv, 0, none⟩) ln gc) from ⟨fun g hg a c d => by
    have l4 : g < w4.heap.size := by have := b34.size; omega
    rw [htu.block g c, ← hw6, heap_set_far _ _ _ _ _ a, hgrow.block g l4 (fun k => d k.symm), b34.block g hg], hown, by
    have := b34.size; have := hgrow.size; have : w6.heap.size = w5.heap.size := by rw [← hw6]; simp
    rw [htu.size]; omega⟩)
   have FIN := Lib.hid (And.intro H7 (hB6.trans (htu.below hz.2.1)))
   have d2 := hbx5.c1
   have d3 := hbx5.f 1 _ rfl
   have d4 := hbx6.c2
   clear hz hzb hts b34 hown pz hb4 hs4 H4 rown hgrow hkept hrun2 hwh hv1 hbx5 hmp5 hB5 hbx6 hmp6 hrow6 hB6 htu hmp7 H7
   go_wp2_with (refine wpList_append_row rfl _ _ 43 rfl rfl rfl hrun ?_)
   go_end0
   exact ⟨rfl, ⟨_, FIN.out.1, KH.out⟩, FIN.out.2⟩
 ·have e1 : decide ((0 : Int) < (n : Int)) = false := decide_eq_false (by omega)
  have e2 : decide (0 < n) = false := decide_eq_false hn0
  have HM := Lib.hid (show takeM P T t ts = ts by unfold takeM; rw [HN.out, if_neg (fun h => hn0 h.1)])
  clear hn0
  go_wp2
  go_end0
  exact ⟨rfl, ⟨v, by rw [HM.out]; exact HH2.out, KeepH.of_below BW2.out⟩, HB2.out⟩
end Go.Proofs.YtnabdopnlinklaaGreat
/- How a hole spreads, step by step. Pure. -/
namespace Go.Proofs.YtnabdopnlinklaaGreat
open Go.RowKit Go.MagM
/-- Is what has this number in conflict? -/
def confT (P : List (Int × Int)) (S : List TriM) (p : Int × Int) (u : Int) : Bool := match S[u.toNat]? with
 | some U => conflictM P U p
 | none => false
/-- What a hole has behind a number is taken. -/
def takeS (P : List (Int × Int)) (S : List TriM) (u : Int) (ts : List Int) : List Int := match S[u.toNat]? with
 | some U => takeM P U u ts
 | none => ts
/-- Across edge i of T. -/
def stepM (P : List (Int × Int)) (S : List TriM) (p : Int × Int) (T : TriM) (i : Nat) (ts : List Int) : List Int :=
 if T.f i = false ∧ T.n i ∉ ts ∧ confT P S p (T.n i) = true then takeS P S (T.n i) ts else ts
/-- Across the first n of T's edges. -/
def innerM (P : List (Int × Int)) (S : List TriM) (p : Int × Int) (T : TriM) : Nat → List Int → List Int
 | 0, ts => ts
 | n + 1, ts => stepM P S p T n (innerM P S p T n ts)
/-- From the n-th of those that are taken on. -/
def spreadM (P : List (Int × Int)) (S : List TriM) (p : Int × Int) : Nat → Nat → List Int → List Int
 | 0, _, ts => ts
 | fuel + 1, n, ts => match ts[n]? with
  | none => ts
  | some t => match S[t.toNat]? with
   | none => spreadM P S p fuel (n + 1) ts
   | some T => spreadM P S p fuel (n + 1) (innerM P S p T 3 ts)
/-- A list of triangles, each once. -/
structure InS (S : List TriM) (ts : List Int) : Prop where
 once : ts.Nodup
 is : ∀ t ∈ ts, ∃ u : Nat, t = (u : Int) ∧ u < S.length
/-- All neighbours are there. -/
def Nexts (S : List TriM) : Prop := ∀ (t : Nat) (T : TriM), S[t]? = some T → ∀ i, i < 3 → ∃ u : Nat, T.n i = (u : Int) ∧ u < S.length
theorem InS.nil (S : List TriM) : InS S [] := ⟨List.nodup_nil, fun _ h => by cases h⟩
theorem InS.take {S : List TriM} {ts : List Int} (h : InS S ts) (P : List (Int × Int)) {u : Nat} {U : TriM} (hU : S[u]? = some U) : InS S (takeM P U (u : Int) ts) := by
 unfold takeM
 split
 ·rename_i hc
  refine ⟨?_, fun t ht => ?_⟩
  ·rw [List.nodup_append]
   refine ⟨h.once, by simp, fun x hx y hy e => ?_⟩
   simp only [List.mem_singleton] at hy
   subst hy; subst e
   exact hc.2 hx
  ·rcases List.mem_append.1 ht with ht | ht
   ·exact h.is t ht
   ·simp only [List.mem_singleton] at ht
    exact ⟨u, ht, (List.getElem?_eq_some_iff.1 hU).1⟩
 ·exact h
theorem InS.takeS {S : List TriM} {ts : List Int} (h : InS S ts) (P : List (Int × Int)) {z : Int} (hz : ∃ u : Nat, z = (u : Int) ∧ u < S.length) : InS S (takeS P S z ts) := by
 obtain ⟨u, rfl, hu⟩ := hz
 unfold Go.Proofs.YtnabdopnlinklaaGreat.takeS
 rw [Int.toNat_natCast, List.getElem?_eq_getElem hu]
 exact h.take P (List.getElem?_eq_getElem hu)
theorem InS.step {S : List TriM} {ts : List Int} (h : InS S ts) (P : List (Int × Int)) (p : Int × Int) {T : TriM} {i : Nat} (hz : ∃ u : Nat, T.n i = (u : Int) ∧ u < S.length) : InS S (stepM P S p T i ts) := by
 unfold stepM
 split
 ·exact h.takeS P hz
 ·exact h
theorem InS.inner {S : List TriM} {ts : List Int} (h : InS S ts) (P : List (Int × Int)) (p : Int × Int) {T : TriM} (hz : ∀ i, i < 3 → ∃ u : Nat, T.n i = (u : Int) ∧ u < S.length) : ∀ n, n ≤ 3 → InS S (innerM P S p T n ts)
 | 0, _ => h
 | n + 1, hn => (InS.inner h P p hz n (by omega)).step P p (hz n (by omega))
/-- Each once: no more of them than there are. -/
theorem InS.le {S : List TriM} {ts : List Int} (h : InS S ts) : ts.length ≤ S.length := by
 have hm : (ts.map Int.toNat).Nodup := by
  rw [List.nodup_iff_pairwise_ne, List.pairwise_map]
  refine (List.nodup_iff_pairwise_ne.1 h.once).imp_of_mem ?_
  intro a b ha hb hne e
  obtain ⟨x, rfl, -⟩ := h.is a ha
  obtain ⟨y, rfl, -⟩ := h.is b hb
  exact hne (by simp at e; rw [e])
 have hs : ∀ x ∈ ts.map Int.toNat, x ∈ List.range S.length := by
  intro x hx
  obtain ⟨t, ht, rfl⟩ := List.mem_map.1 hx
  obtain ⟨u, rfl, hu⟩ := h.is t ht
  simpa using hu
 have := List.Nodup.length_le_of_subset hm (fun x hx => hs x hx)
 simpa using this
/-- Where the list ends the spreading ends. -/
theorem spreadM_end (P : List (Int × Int)) (S : List TriM) (p : Int × Int) {ts : List Int} : ∀ (fuel : Nat) {n : Nat}, ts.length ≤ n → spreadM P S p fuel n ts = ts
 | 0, _, _ => rfl
 | fuel + 1, n, h => by rw [spreadM, List.getElem?_eq_none h]
/-- One more of them is gone through. -/
theorem spreadM_on (P : List (Int × Int)) (S : List TriM) (p : Int × Int) {ts : List Int} {fuel n t : Nat} {T : TriM} (h : ts[n]? = some (t : Int)) (hT : S[t]? = some T) : spreadM P S p (fuel + 1) n ts = spreadM P S p fuel (n + 1) (innerM P S p T 3 ts) := by
 rw [spreadM, h]
 simp only [Int.toNat_natCast, hT]
end Go.Proofs.YtnabdopnlinklaaGreat
/- cavity's side. Written by tools/cav3.py. -/
namespace Go.Proofs.YtnabdopnlinklaaGreat
open Go.RowKit Go.MagM Go.Maps
set_option maxRecDepth 100000 in
set_option maxHeartbeats 8000000 in
theorem cvSide0 {mb pb pc hb : Nat} {ta : Option Addr} {tc : Nat} {P : List (Int × Int)} {S : List TriM} (t u : Nat) (v0 v1 v2 n1 n2 : Int) (f0 f1 f2 : Bool) (U : TriM) (w : World) (h : MeshR w mb pb pc ta tc P S) (hc : w.cell? ⟨hb, 0, none⟩ = some (.pointer (some ⟨mb, 0, none⟩))) (hT : S[t]? = some (⟨v0, v1, v2, (u : Int), n1, n2, f0, f1, f2⟩ : TriM)) (hU : S[u]? = some U) :
  Calls Tryz.prog 106 #[.pointer (some ⟨hb, 0, none⟩), .int .i64 (t : Int), .int .i64 0] w fun e w' => e = .returned (.agg #[.int .i64 v1, .int .i64 v2, .int .i64 (u : Int), .int .i64 (edgeT U v2 v1), .bool f0]) ∧ Below w.heap.size w w' := by
 obtain ⟨w1, hw1, pl, hb1, hs1⟩ := new_box w _ rfl [.int .i64 0, .int .i64 0, .int .i64 0, .int .i64 0, .bool false] 50
 have NE := Lib.hid (show w1.heap.size ≠ w.heap.size by omega)
 have hc1 : w1.cell? ⟨hb, 0, none⟩ = some (.pointer (some ⟨mb, 0, none⟩)) := (hb1.cell (World.block_lt_of_cell? _ _ hc)).trans hc
 have h1 := h.below hb1
 obtain ⟨w2, hw2, px, hb2, hs2⟩ := new_box w1 _ rfl [.int .i64 v0, .int .i64 v1, .int .i64 v2, .int .i64 (u : Int), .int .i64 n1, .int .i64 n2, .bool f0, .bool f1, .bool f2] 37
 have hlt := (List.getElem?_eq_some_iff.1 hT).1
 have hsh := h.short.2
 obtain ⟨len, hlen⟩ : ∃ len, S.length = len := ⟨_, rfl⟩
 have i1 : (0 : Int) ≤ (t : Int) := by omega
 have i2 : (t : Int) < (len : Int) := by omega
 have b1 := h1.box.c1
 rw [hlen] at b1 hsh hlt
 obtain ⟨tb, hta, -, h9⟩ := h1.tris.get hT
 subst hta
 obtain ⟨c0, c1, c2, c3, c4, c5, c6, c7, c8⟩ := h9
 simp only [] at c0 c1 c2 c3 c4 c5 c6 c7 c8
 have HEN := Lib.hid (show ∀ W : World, Calls Tryz.prog 148 #[.agg #[.int .i64 v0, .int .i64 v1, .int .i64 v2, .int .i64 (u : Int), .int .i64 n1, .int .i64 n2, .bool f0, .bool f1, .bool f2], .int .i64 0] W fun e w' => e = .returned (.tuple #[.int .i64 v1, .int .i64 v2]) ∧ Below W.heap.size W w' from fun W => cvEnds_any (⟨v0, v1, v2, (u : Int), n1, n2, f0, f1, f2⟩ : TriM) 0 (by omega) W)
 obtain ⟨j, hj⟩ : ∃ j, edgeT U v2 v1 = j := ⟨_, rfl⟩
 rw [hj]
 have HED := Lib.hid (show ∀ W : World, Below w1.heap.size w1 W → Calls Tryz.prog 147 #[.pointer (some ⟨mb, 0, none⟩), .int .i64 (u : Int), .int .i64 v2, .int .i64 v1] W fun e w' => e = .returned (.int .i64 j) ∧ Below W.heap.size W w' from fun W hW => by have := cvEdge_any u U v2 v1 W (h1.below hW) hU; rw [hj] at this; exact this)
 have HB1 := Lib.hid hb1; have HB2 := Lib.hid hb2
 have PL2 := Lib.hid (pl.below hb2); have PX2 := Lib.hid px
 have d0 := px.c 0 _ rfl; have d1 := px.c 1 _ rfl; have d2 := px.c 2 _ rfl; have d3 := px.c 3 _ rfl; have d4 := px.c 4 _ rfl; have d5 := px.c 5 _ rfl; have d6 := px.c 6 _ rfl; have d7 := px.c 7 _ rfl; have d8 := px.c 8 _ rfl
 have HC1 := Lib.hid hc1; have HC0 := Lib.hid hc
 clear h hc hT hU hb1 hb2 hs1 hs2 pl px h1 hlen hj
 go_enter Tryz.func106, Tryz.ntmps106
 go_wp2_with fail
 refine (HEN.out _).mono ?_
 rintro e w3 ⟨rfl, hb3⟩
 clear hw1 hw2 d0 d1 d2 d3 d4 d5 d6 d7 d8 c0 c1 c2 c3 c4 c5 c6 c7 c8 b1 hc1 i1 i2
 have HB3 := Lib.hid (HB2.out.trans (hb3.mono HB2.out.size))
 have PL := Lib.hid (PL2.out.below hb3); have PX := Lib.hid (PX2.out.below hb3)
 clear hb3
 have d0 := PX.out.c 3 _ rfl
 go_wp2
 clear d0
 refine wp_region_noPanic ?_
 refine wp_region_held_drew (S := fun w' => w'.cell? ⟨hb, 0, none⟩ = some (.pointer (some ⟨mb, 0, none⟩)) ∧ w'.cell? ⟨w1.heap.size, 6, none⟩ = some (.bool f0)) (by kernel_rfl) (⟨(HB3.out.cell (World.block_lt_of_cell? _ _ HC1.out)).trans HC1.out, PX.out.c 6 _ rfl⟩) (fun hHeld => ?_)
 refine rU 0 _ _ ?_
 (try simp only [Act.put]);try simp only [sA,sZ,sS]
 refine rU 1 _ _ ?_
 (try simp only [Act.put]);try simp only [sA,sZ,sS]
 refine rU 2 _ _ ?_
 (try simp only [Act.put]);try simp only [sA,sZ,sS]
 refine rU 3 _ _ ?_
 (try simp only [Act.put]);try simp only [sA,sZ,sS]
 refine rU 4 _ _ ?_
 (try simp only [Act.put]);try simp only [sA,sZ,sS]
 refine rU 5 _ _ ?_
 (try simp only [Act.put]);try simp only [sA,sZ,sS]
 refine rU 6 _ _ ?_
 (try simp only [Act.put]);try simp only [sA,sZ,sS]
 refine rU 7 _ _ ?_
 (try simp only [Act.put]);try simp only [sA,sZ,sS]
 refine rU 8 _ _ ?_
 (try simp only [Act.put]);try simp only [sA,sZ,sS]
 refine rU 9 _ _ ?_
 (try simp only [Act.put]);try simp only [sA,sZ,sS]
 refine rU 11 _ _ ?_
 (try simp only [Act.put]);try simp only [sA,sZ,sS]
 refine rU 12 _ _ ?_
 (try simp only [Act.put]);try simp only [sA,sZ,sS]
 refine rU 13 _ _ ?_
 (try simp only [Act.put]);try simp only [sA,sZ,sS]
 refine rU 14 _ _ ?_
 (try simp only [Act.put]);try simp only [sA,sZ,sS]
 refine reg_call 10 ?_ (by kernel_rfl) ?_ (fun K hK => ?_);rotate_left 1
 ·simp only [gA,gS,gZ]; exact rfl
 go_simp
 refine (HED.out _ HB3.out.drew').mono ?_
 rintro e w4 ⟨rfl, hb4⟩
 have HB4 := Lib.hid hb4; clear hb4
 have PX4 := Lib.hid ((PX.out.drew).below HB4.out)
 have HB34 := Lib.hid (HB3.out.drew'.trans (HB4.out.mono HB3.out.size))
 refine hK.out _ _ (⟨(HB34.out.cell (World.block_lt_of_cell? _ _ HC1.out)).trans HC1.out, PX4.out.c 6 _ rfl⟩) (fun hHeld => ?_)
 clear hK K
 (try simp only [Act.put]);try simp only [sA,sZ,sS]
 refine rU 15 _ _ ?_
 (try simp only [Act.put]);try simp only [sA,sZ,sS]
 refine reg_call 16 ?_ (by kernel_rfl) ?_ (fun K hK => ?_);rotate_left 1
 ·simp only [gA,gS,gZ]; exact rfl
 have hbq := HB34.out
 have plq := (PL.out.drew).below HB4.out
 obtain ⟨wz, hwz⟩ : ∃ wz, setAll w4 w.heap.size 0 [.int .i64 v1, .int .i64 v2, .int .i64 (u : Int), .int .i64 j, .bool f0] = wz := ⟨_, rfl⟩
 have pz : Box wz w.heap.size [.int .i64 v1, .int .i64 v2, .int .i64 (u : Int), .int .i64 j, .bool f0] := by rw [← hwz]; exact plq.setAll [.int .i64 v1, .int .i64 v2, .int .i64 (u : Int), .int .i64 j, .bool f0] rfl
 have hbz : Below w.heap.size w wz := by rw [← hwz]; exact below_setAll (HB1.out.trans (hbq.mono HB1.out.size)) (Nat.le_refl _) _
 have hne : w1.heap.size ≠ w.heap.size := NE.out
 have pxz : Box wz w1.heap.size [.int .i64 v0, .int .i64 v1, .int .i64 v2, .int .i64 (u : Int), .int .i64 n1, .int .i64 n2, .bool f0, .bool f1, .bool f2] := by rw [← hwz]; exact (((((PX4.out.far hne _ _).far hne _ _).far hne _ _).far hne _ _).far hne _ _)
 have z0 := pz.c 0 _ rfl; have z1 := pz.c 1 _ rfl; have z2 := pz.c 2 _ rfl; have z3 := pz.c 3 _ rfl; have z4 := pz.c 4 _ rfl
 have o0 := plq.c 0 _ rfl; have o1 := plq.c 1 _ rfl; have o2 := plq.c 2 _ rfl; have o3 := plq.c 3 _ rfl; have o4 := plq.c 4 _ rfl
 have g0 := plq.f 0 _ rfl; have g1 := plq.f 1 _ rfl; have g2 := plq.f 2 _ rfl; have g3 := plq.f 3 _ rfl; have g4 := plq.f 4 _ rfl
 have HWZ := Lib.hid hwz; have HBZ := Lib.hid hbz; have HZ := Lib.hid (And.intro z0 (And.intro z1 (And.intro z2 (And.intro z3 z4)))); have PXZ := Lib.hid pxz
 clear hbq plq hwz pz hbz hne pxz z0 z1 z2 z3 z4
 go_simp
 clear o0 o1 o2 o3 o4 g0 g1 g2 g3 g4
 have hwz := HWZ.out
 simp only [setAll] at hwz
 rw [hwz]
 refine hK.out _ _ (⟨(HBZ.out.cell (World.block_lt_of_cell? _ _ HC0.out)).trans HC0.out, PXZ.out.c 6 _ rfl⟩) (fun hHeld => ?_)
 clear hK K
 (try simp only [Act.put]);try simp only [sA,sZ,sS]
 refine wpAnyH_done (by kernel_rfl) ?_ _
 refine NoPanic.normal ?_
 go_wp2
 have z0 := HZ.out.1; have z1 := HZ.out.2.1; have z2 := HZ.out.2.2.1; have z3 := HZ.out.2.2.2.1; have z4 := HZ.out.2.2.2.2
 (try simp only [Exit.inBlock, Exit.then])
 refine bodyPost_ret (v := .agg #[.int .i64 v1, .int .i64 v2, .int .i64 (u : Int), .int .i64 j, .bool f0]) ?_ rfl ?_
 ·simp [results, Tryz.results106, go_sem, z0, z1, z2, z3, z4]
 ·exact ⟨rfl, HBZ.out⟩
set_option maxRecDepth 100000 in
set_option maxHeartbeats 8000000 in
theorem cvSide1 {mb pb pc hb : Nat} {ta : Option Addr} {tc : Nat} {P : List (Int × Int)} {S : List TriM} (t u : Nat) (v0 v1 v2 n0 n2 : Int) (f0 f1 f2 : Bool) (U : TriM) (w : World) (h : MeshR w mb pb pc ta tc P S) (hc : w.cell? ⟨hb, 0, none⟩ = some (.pointer (some ⟨mb, 0, none⟩))) (hT : S[t]? = some (⟨v0, v1, v2, n0, (u : Int), n2, f0, f1, f2⟩ : TriM)) (hU : S[u]? = some U) :
  Calls Tryz.prog 106 #[.pointer (some ⟨hb, 0, none⟩), .int .i64 (t : Int), .int .i64 1] w fun e w' => e = .returned (.agg #[.int .i64 v2, .int .i64 v0, .int .i64 (u : Int), .int .i64 (edgeT U v0 v2), .bool f1]) ∧ Below w.heap.size w w' := by
 obtain ⟨w1, hw1, pl, hb1, hs1⟩ := new_box w _ rfl [.int .i64 0, .int .i64 0, .int .i64 0, .int .i64 0, .bool false] 50
 have NE := Lib.hid (show w1.heap.size ≠ w.heap.size by omega)
 have hc1 : w1.cell? ⟨hb, 0, none⟩ = some (.pointer (some ⟨mb, 0, none⟩)) := (hb1.cell (World.block_lt_of_cell? _ _ hc)).trans hc
 have h1 := h.below hb1
 obtain ⟨w2, hw2, px, hb2, hs2⟩ := new_box w1 _ rfl [.int .i64 v0, .int .i64 v1, .int .i64 v2, .int .i64 n0, .int .i64 (u : Int), .int .i64 n2, .bool f0, .bool f1, .bool f2] 37
 have hlt := (List.getElem?_eq_some_iff.1 hT).1
 have hsh := h.short.2
 obtain ⟨len, hlen⟩ : ∃ len, S.length = len := ⟨_, rfl⟩
 have i1 : (0 : Int) ≤ (t : Int) := by omega
 have i2 : (t : Int) < (len : Int) := by omega
 have b1 := h1.box.c1
 rw [hlen] at b1 hsh hlt
 obtain ⟨tb, hta, -, h9⟩ := h1.tris.get hT
 subst hta
 obtain ⟨c0, c1, c2, c3, c4, c5, c6, c7, c8⟩ := h9
 simp only [] at c0 c1 c2 c3 c4 c5 c6 c7 c8
 have HEN := Lib.hid (show ∀ W : World, Calls Tryz.prog 148 #[.agg #[.int .i64 v0, .int .i64 v1, .int .i64 v2, .int .i64 n0, .int .i64 (u : Int), .int .i64 n2, .bool f0, .bool f1, .bool f2], .int .i64 1] W fun e w' => e = .returned (.tuple #[.int .i64 v2, .int .i64 v0]) ∧ Below W.heap.size W w' from fun W => cvEnds_any (⟨v0, v1, v2, n0, (u : Int), n2, f0, f1, f2⟩ : TriM) 1 (by omega) W)
 obtain ⟨j, hj⟩ : ∃ j, edgeT U v0 v2 = j := ⟨_, rfl⟩
 rw [hj]
 have HED := Lib.hid (show ∀ W : World, Below w1.heap.size w1 W → Calls Tryz.prog 147 #[.pointer (some ⟨mb, 0, none⟩), .int .i64 (u : Int), .int .i64 v0, .int .i64 v2] W fun e w' => e = .returned (.int .i64 j) ∧ Below W.heap.size W w' from fun W hW => by have := cvEdge_any u U v0 v2 W (h1.below hW) hU; rw [hj] at this; exact this)
 have HB1 := Lib.hid hb1; have HB2 := Lib.hid hb2
 have PL2 := Lib.hid (pl.below hb2); have PX2 := Lib.hid px
 have d0 := px.c 0 _ rfl; have d1 := px.c 1 _ rfl; have d2 := px.c 2 _ rfl; have d3 := px.c 3 _ rfl; have d4 := px.c 4 _ rfl; have d5 := px.c 5 _ rfl; have d6 := px.c 6 _ rfl; have d7 := px.c 7 _ rfl; have d8 := px.c 8 _ rfl
 have HC1 := Lib.hid hc1; have HC0 := Lib.hid hc
 clear h hc hT hU hb1 hb2 hs1 hs2 pl px h1 hlen hj
 go_enter Tryz.func106, Tryz.ntmps106
 go_wp2_with fail
 refine (HEN.out _).mono ?_
 rintro e w3 ⟨rfl, hb3⟩
 clear hw1 hw2 d0 d1 d2 d3 d4 d5 d6 d7 d8 c0 c1 c2 c3 c4 c5 c6 c7 c8 b1 hc1 i1 i2
 have HB3 := Lib.hid (HB2.out.trans (hb3.mono HB2.out.size))
 have PL := Lib.hid (PL2.out.below hb3); have PX := Lib.hid (PX2.out.below hb3)
 clear hb3
 have d0 := PX.out.c 4 _ rfl
 go_wp2
 clear d0
 refine wp_region_noPanic ?_
 refine wp_region_held_drew (S := fun w' => w'.cell? ⟨hb, 0, none⟩ = some (.pointer (some ⟨mb, 0, none⟩)) ∧ w'.cell? ⟨w1.heap.size, 7, none⟩ = some (.bool f1)) (by kernel_rfl) (⟨(HB3.out.cell (World.block_lt_of_cell? _ _ HC1.out)).trans HC1.out, PX.out.c 7 _ rfl⟩) (fun hHeld => ?_)
 refine rU 0 _ _ ?_
 (try simp only [Act.put]);try simp only [sA,sZ,sS]
 refine rU 1 _ _ ?_
 (try simp only [Act.put]);try simp only [sA,sZ,sS]
 refine rU 2 _ _ ?_
 (try simp only [Act.put]);try simp only [sA,sZ,sS]
 refine rU 3 _ _ ?_
 (try simp only [Act.put]);try simp only [sA,sZ,sS]
 refine rU 4 _ _ ?_
 (try simp only [Act.put]);try simp only [sA,sZ,sS]
 refine rU 5 _ _ ?_
 (try simp only [Act.put]);try simp only [sA,sZ,sS]
 refine rU 6 _ _ ?_
 (try simp only [Act.put]);try simp only [sA,sZ,sS]
 refine rU 7 _ _ ?_
 (try simp only [Act.put]);try simp only [sA,sZ,sS]
 refine rU 8 _ _ ?_
 (try simp only [Act.put]);try simp only [sA,sZ,sS]
 refine rU 9 _ _ ?_
 (try simp only [Act.put]);try simp only [sA,sZ,sS]
 refine rU 11 _ _ ?_
 (try simp only [Act.put]);try simp only [sA,sZ,sS]
 refine rU 12 _ _ ?_
 (try simp only [Act.put]);try simp only [sA,sZ,sS]
 refine rU 13 _ _ ?_
 (try simp only [Act.put]);try simp only [sA,sZ,sS]
 refine rU 14 _ _ ?_
 (try simp only [Act.put]);try simp only [sA,sZ,sS]
 refine reg_call 10 ?_ (by kernel_rfl) ?_ (fun K hK => ?_);rotate_left 1
 ·simp only [gA,gS,gZ]; exact rfl
 go_simp
 refine (HED.out _ HB3.out.drew').mono ?_
 rintro e w4 ⟨rfl, hb4⟩
 have HB4 := Lib.hid hb4; clear hb4
 have PX4 := Lib.hid ((PX.out.drew).below HB4.out)
 have HB34 := Lib.hid (HB3.out.drew'.trans (HB4.out.mono HB3.out.size))
 refine hK.out _ _ (⟨(HB34.out.cell (World.block_lt_of_cell? _ _ HC1.out)).trans HC1.out, PX4.out.c 7 _ rfl⟩) (fun hHeld => ?_)
 clear hK K
 (try simp only [Act.put]);try simp only [sA,sZ,sS]
 refine rU 15 _ _ ?_
 (try simp only [Act.put]);try simp only [sA,sZ,sS]
 refine reg_call 16 ?_ (by kernel_rfl) ?_ (fun K hK => ?_);rotate_left 1
 ·simp only [gA,gS,gZ]; exact rfl
 have hbq := HB34.out
 have plq := (PL.out.drew).below HB4.out
 obtain ⟨wz, hwz⟩ : ∃ wz, setAll w4 w.heap.size 0 [.int .i64 v2, .int .i64 v0, .int .i64 (u : Int), .int .i64 j, .bool f1] = wz := ⟨_, rfl⟩
 have pz : Box wz w.heap.size [.int .i64 v2, .int .i64 v0, .int .i64 (u : Int), .int .i64 j, .bool f1] := by rw [← hwz]; exact plq.setAll [.int .i64 v2, .int .i64 v0, .int .i64 (u : Int), .int .i64 j, .bool f1] rfl
 have hbz : Below w.heap.size w wz := by rw [← hwz]; exact below_setAll (HB1.out.trans (hbq.mono HB1.out.size)) (Nat.le_refl _) _
 have hne : w1.heap.size ≠ w.heap.size := NE.out
 have pxz : Box wz w1.heap.size [.int .i64 v0, .int .i64 v1, .int .i64 v2, .int .i64 n0, .int .i64 (u : Int), .int .i64 n2, .bool f0, .bool f1, .bool f2] := by rw [← hwz]; exact (((((PX4.out.far hne _ _).far hne _ _).far hne _ _).far hne _ _).far hne _ _)
 have z0 := pz.c 0 _ rfl; have z1 := pz.c 1 _ rfl; have z2 := pz.c 2 _ rfl; have z3 := pz.c 3 _ rfl; have z4 := pz.c 4 _ rfl
 have o0 := plq.c 0 _ rfl; have o1 := plq.c 1 _ rfl; have o2 := plq.c 2 _ rfl; have o3 := plq.c 3 _ rfl; have o4 := plq.c 4 _ rfl
 have g0 := plq.f 0 _ rfl; have g1 := plq.f 1 _ rfl; have g2 := plq.f 2 _ rfl; have g3 := plq.f 3 _ rfl; have g4 := plq.f 4 _ rfl
 have HWZ := Lib.hid hwz; have HBZ := Lib.hid hbz; have HZ := Lib.hid (And.intro z0 (And.intro z1 (And.intro z2 (And.intro z3 z4)))); have PXZ := Lib.hid pxz
 clear hbq plq hwz pz hbz hne pxz z0 z1 z2 z3 z4
 go_simp
 clear o0 o1 o2 o3 o4 g0 g1 g2 g3 g4
 have hwz := HWZ.out
 simp only [setAll] at hwz
 rw [hwz]
 refine hK.out _ _ (⟨(HBZ.out.cell (World.block_lt_of_cell? _ _ HC0.out)).trans HC0.out, PXZ.out.c 7 _ rfl⟩) (fun hHeld => ?_)
 clear hK K
 (try simp only [Act.put]);try simp only [sA,sZ,sS]
 refine wpAnyH_done (by kernel_rfl) ?_ _
 refine NoPanic.normal ?_
 go_wp2
 have z0 := HZ.out.1; have z1 := HZ.out.2.1; have z2 := HZ.out.2.2.1; have z3 := HZ.out.2.2.2.1; have z4 := HZ.out.2.2.2.2
 (try simp only [Exit.inBlock, Exit.then])
 refine bodyPost_ret (v := .agg #[.int .i64 v2, .int .i64 v0, .int .i64 (u : Int), .int .i64 j, .bool f1]) ?_ rfl ?_
 ·simp [results, Tryz.results106, go_sem, z0, z1, z2, z3, z4]
 ·exact ⟨rfl, HBZ.out⟩
set_option maxRecDepth 100000 in
set_option maxHeartbeats 8000000 in
theorem cvSide2 {mb pb pc hb : Nat} {ta : Option Addr} {tc : Nat} {P : List (Int × Int)} {S : List TriM} (t u : Nat) (v0 v1 v2 n0 n1 : Int) (f0 f1 f2 : Bool) (U : TriM) (w : World) (h : MeshR w mb pb pc ta tc P S) (hc : w.cell? ⟨hb, 0, none⟩ = some (.pointer (some ⟨mb, 0, none⟩))) (hT : S[t]? = some (⟨v0, v1, v2, n0, n1, (u : Int), f0, f1, f2⟩ : TriM)) (hU : S[u]? = some U) :
  Calls Tryz.prog 106 #[.pointer (some ⟨hb, 0, none⟩), .int .i64 (t : Int), .int .i64 2] w fun e w' => e = .returned (.agg #[.int .i64 v0, .int .i64 v1, .int .i64 (u : Int), .int .i64 (edgeT U v1 v0), .bool f2]) ∧ Below w.heap.size w w' := by
 obtain ⟨w1, hw1, pl, hb1, hs1⟩ := new_box w _ rfl [.int .i64 0, .int .i64 0, .int .i64 0, .int .i64 0, .bool false] 50
 have NE := Lib.hid (show w1.heap.size ≠ w.heap.size by omega)
 have hc1 : w1.cell? ⟨hb, 0, none⟩ = some (.pointer (some ⟨mb, 0, none⟩)) := (hb1.cell (World.block_lt_of_cell? _ _ hc)).trans hc
 have h1 := h.below hb1
 obtain ⟨w2, hw2, px, hb2, hs2⟩ := new_box w1 _ rfl [.int .i64 v0, .int .i64 v1, .int .i64 v2, .int .i64 n0, .int .i64 n1, .int .i64 (u : Int), .bool f0, .bool f1, .bool f2] 37
 have hlt := (List.getElem?_eq_some_iff.1 hT).1
 have hsh := h.short.2
 obtain ⟨len, hlen⟩ : ∃ len, S.length = len := ⟨_, rfl⟩
 have i1 : (0 : Int) ≤ (t : Int) := by omega
 have i2 : (t : Int) < (len : Int) := by omega
 have b1 := h1.box.c1
 rw [hlen] at b1 hsh hlt
 obtain ⟨tb, hta, -, h9⟩ := h1.tris.get hT
 subst hta
 obtain ⟨c0, c1, c2, c3, c4, c5, c6, c7, c8⟩ := h9
 simp only [] at c0 c1 c2 c3 c4 c5 c6 c7 c8
 have HEN := Lib.hid (show ∀ W : World, Calls Tryz.prog 148 #[.agg #[.int .i64 v0, .int .i64 v1, .int .i64 v2, .int .i64 n0, .int .i64 n1, .int .i64 (u : Int), .bool f0, .bool f1, .bool f2], .int .i64 2] W fun e w' => e = .returned (.tuple #[.int .i64 v0, .int .i64 v1]) ∧ Below W.heap.size W w' from fun W => cvEnds_any (⟨v0, v1, v2, n0, n1, (u : Int), f0, f1, f2⟩ : TriM) 2 (by omega) W)
 obtain ⟨j, hj⟩ : ∃ j, edgeT U v1 v0 = j := ⟨_, rfl⟩
 rw [hj]
 have HED := Lib.hid (show ∀ W : World, Below w1.heap.size w1 W → Calls Tryz.prog 147 #[.pointer (some ⟨mb, 0, none⟩), .int .i64 (u : Int), .int .i64 v1, .int .i64 v0] W fun e w' => e = .returned (.int .i64 j) ∧ Below W.heap.size W w' from fun W hW => by have := cvEdge_any u U v1 v0 W (h1.below hW) hU; rw [hj] at this; exact this)
 have HB1 := Lib.hid hb1; have HB2 := Lib.hid hb2
 have PL2 := Lib.hid (pl.below hb2); have PX2 := Lib.hid px
 have d0 := px.c 0 _ rfl; have d1 := px.c 1 _ rfl; have d2 := px.c 2 _ rfl; have d3 := px.c 3 _ rfl; have d4 := px.c 4 _ rfl; have d5 := px.c 5 _ rfl; have d6 := px.c 6 _ rfl; have d7 := px.c 7 _ rfl; have d8 := px.c 8 _ rfl
 have HC1 := Lib.hid hc1; have HC0 := Lib.hid hc
 clear h hc hT hU hb1 hb2 hs1 hs2 pl px h1 hlen hj
 go_enter Tryz.func106, Tryz.ntmps106
 go_wp2_with fail
 refine (HEN.out _).mono ?_
 rintro e w3 ⟨rfl, hb3⟩
 clear hw1 hw2 d0 d1 d2 d3 d4 d5 d6 d7 d8 c0 c1 c2 c3 c4 c5 c6 c7 c8 b1 hc1 i1 i2
 have HB3 := Lib.hid (HB2.out.trans (hb3.mono HB2.out.size))
 have PL := Lib.hid (PL2.out.below hb3); have PX := Lib.hid (PX2.out.below hb3)
 clear hb3
 have d0 := PX.out.c 5 _ rfl
 go_wp2
 clear d0
 refine wp_region_noPanic ?_
 refine wp_region_held_drew (S := fun w' => w'.cell? ⟨hb, 0, none⟩ = some (.pointer (some ⟨mb, 0, none⟩)) ∧ w'.cell? ⟨w1.heap.size, 8, none⟩ = some (.bool f2)) (by kernel_rfl) (⟨(HB3.out.cell (World.block_lt_of_cell? _ _ HC1.out)).trans HC1.out, PX.out.c 8 _ rfl⟩) (fun hHeld => ?_)
 refine rU 0 _ _ ?_
 (try simp only [Act.put]);try simp only [sA,sZ,sS]
 refine rU 1 _ _ ?_
 (try simp only [Act.put]);try simp only [sA,sZ,sS]
 refine rU 2 _ _ ?_
 (try simp only [Act.put]);try simp only [sA,sZ,sS]
 refine rU 3 _ _ ?_
 (try simp only [Act.put]);try simp only [sA,sZ,sS]
 refine rU 4 _ _ ?_
 (try simp only [Act.put]);try simp only [sA,sZ,sS]
 refine rU 5 _ _ ?_
 (try simp only [Act.put]);try simp only [sA,sZ,sS]
 refine rU 6 _ _ ?_
 (try simp only [Act.put]);try simp only [sA,sZ,sS]
 refine rU 7 _ _ ?_
 (try simp only [Act.put]);try simp only [sA,sZ,sS]
 refine rU 8 _ _ ?_
 (try simp only [Act.put]);try simp only [sA,sZ,sS]
 refine rU 9 _ _ ?_
 (try simp only [Act.put]);try simp only [sA,sZ,sS]
 refine rU 11 _ _ ?_
 (try simp only [Act.put]);try simp only [sA,sZ,sS]
 refine rU 12 _ _ ?_
 (try simp only [Act.put]);try simp only [sA,sZ,sS]
 refine rU 13 _ _ ?_
 (try simp only [Act.put]);try simp only [sA,sZ,sS]
 refine rU 14 _ _ ?_
 (try simp only [Act.put]);try simp only [sA,sZ,sS]
 refine reg_call 10 ?_ (by kernel_rfl) ?_ (fun K hK => ?_);rotate_left 1
 ·simp only [gA,gS,gZ]; exact rfl
 go_simp
 refine (HED.out _ HB3.out.drew').mono ?_
 rintro e w4 ⟨rfl, hb4⟩
 have HB4 := Lib.hid hb4; clear hb4
 have PX4 := Lib.hid ((PX.out.drew).below HB4.out)
 have HB34 := Lib.hid (HB3.out.drew'.trans (HB4.out.mono HB3.out.size))
 refine hK.out _ _ (⟨(HB34.out.cell (World.block_lt_of_cell? _ _ HC1.out)).trans HC1.out, PX4.out.c 8 _ rfl⟩) (fun hHeld => ?_)
 clear hK K
 (try simp only [Act.put]);try simp only [sA,sZ,sS]
 refine rU 15 _ _ ?_
 (try simp only [Act.put]);try simp only [sA,sZ,sS]
 refine reg_call 16 ?_ (by kernel_rfl) ?_ (fun K hK => ?_);rotate_left 1
 ·simp only [gA,gS,gZ]; exact rfl
 have hbq := HB34.out
 have plq := (PL.out.drew).below HB4.out
 obtain ⟨wz, hwz⟩ : ∃ wz, setAll w4 w.heap.size 0 [.int .i64 v0, .int .i64 v1, .int .i64 (u : Int), .int .i64 j, .bool f2] = wz := ⟨_, rfl⟩
 have pz : Box wz w.heap.size [.int .i64 v0, .int .i64 v1, .int .i64 (u : Int), .int .i64 j, .bool f2] := by rw [← hwz]; exact plq.setAll [.int .i64 v0, .int .i64 v1, .int .i64 (u : Int), .int .i64 j, .bool f2] rfl
 have hbz : Below w.heap.size w wz := by rw [← hwz]; exact below_setAll (HB1.out.trans (hbq.mono HB1.out.size)) (Nat.le_refl _) _
 have hne : w1.heap.size ≠ w.heap.size := NE.out
 have pxz : Box wz w1.heap.size [.int .i64 v0, .int .i64 v1, .int .i64 v2, .int .i64 n0, .int .i64 n1, .int .i64 (u : Int), .bool f0, .bool f1, .bool f2] := by rw [← hwz]; exact (((((PX4.out.far hne _ _).far hne _ _).far hne _ _).far hne _ _).far hne _ _)
 have z0 := pz.c 0 _ rfl; have z1 := pz.c 1 _ rfl; have z2 := pz.c 2 _ rfl; have z3 := pz.c 3 _ rfl; have z4 := pz.c 4 _ rfl
 have o0 := plq.c 0 _ rfl; have o1 := plq.c 1 _ rfl; have o2 := plq.c 2 _ rfl; have o3 := plq.c 3 _ rfl; have o4 := plq.c 4 _ rfl
 have g0 := plq.f 0 _ rfl; have g1 := plq.f 1 _ rfl; have g2 := plq.f 2 _ rfl; have g3 := plq.f 3 _ rfl; have g4 := plq.f 4 _ rfl
 have HWZ := Lib.hid hwz; have HBZ := Lib.hid hbz; have HZ := Lib.hid (And.intro z0 (And.intro z1 (And.intro z2 (And.intro z3 z4)))); have PXZ := Lib.hid pxz
 clear hbq plq hwz pz hbz hne pxz z0 z1 z2 z3 z4
 go_simp
 clear o0 o1 o2 o3 o4 g0 g1 g2 g3 g4
 have hwz := HWZ.out
 simp only [setAll] at hwz
 rw [hwz]
 refine hK.out _ _ (⟨(HBZ.out.cell (World.block_lt_of_cell? _ _ HC0.out)).trans HC0.out, PXZ.out.c 8 _ rfl⟩) (fun hHeld => ?_)
 clear hK K
 (try simp only [Act.put]);try simp only [sA,sZ,sS]
 refine wpAnyH_done (by kernel_rfl) ?_ _
 refine NoPanic.normal ?_
 go_wp2
 have z0 := HZ.out.1; have z1 := HZ.out.2.1; have z2 := HZ.out.2.2.1; have z3 := HZ.out.2.2.2.1; have z4 := HZ.out.2.2.2.2
 (try simp only [Exit.inBlock, Exit.then])
 refine bodyPost_ret (v := .agg #[.int .i64 v0, .int .i64 v1, .int .i64 (u : Int), .int .i64 j, .bool f2]) ?_ rfl ?_
 ·simp [results, Tryz.results106, go_sem, z0, z1, z2, z3, z4]
 ·exact ⟨rfl, HBZ.out⟩
end Go.Proofs.YtnabdopnlinklaaGreat
/- cavity's across; side for every edge. -/
namespace Go.Proofs.YtnabdopnlinklaaGreat
open Go.RowKit Go.MagM Go.Maps
/-- A Side as a value. -/
def sideV (a b u j : Int) (f : Bool) : Value := .agg #[.int .i64 a, .int .i64 b, .int .i64 u, .int .i64 j, .bool f]
theorem cvSide_any {mb pb pc hb : Nat} {ta : Option Addr} {tc : Nat} {P : List (Int × Int)} {S : List TriM} (t u i : Nat) (hi : i < 3) (T U : TriM) (hu : T.n i = (u : Int)) (w : World) (h : MeshR w mb pb pc ta tc P S) (hc : w.cell? ⟨hb, 0, none⟩ = some (.pointer (some ⟨mb, 0, none⟩))) (hT : S[t]? = some T) (hU : S[u]? = some U) :
  Calls Tryz.prog 106 #[.pointer (some ⟨hb, 0, none⟩), .int .i64 (t : Int), .int .i64 (i : Int)] w fun e w' => e = .returned (sideV (edgeV T i).1 (edgeV T i).2 (u : Int) (edgeT U (edgeV T i).2 (edgeV T i).1) (T.f i)) ∧ Below w.heap.size w w' := by
 obtain ⟨v0, v1, v2, n0, n1, n2, f0, f1, f2⟩ := T
 obtain rfl | rfl | rfl : i = 0 ∨ i = 1 ∨ i = 2 := by omega
 ·obtain rfl : n0 = (u : Int) := hu
  exact cvSide0 t u v0 v1 v2 n1 n2 f0 f1 f2 U w h hc hT hU
 ·obtain rfl : n1 = (u : Int) := hu
  exact cvSide1 t u v0 v1 v2 n0 n2 f0 f1 f2 U w h hc hT hU
 ·obtain rfl : n2 = (u : Int) := hu
  exact cvSide2 t u v0 v1 v2 n0 n1 f0 f1 f2 U w h hc hT hU
set_option maxRecDepth 100000 in
set_option maxHeartbeats 8000000 in
theorem cvAcross_any {mb pb pc : Nat} {ta : Option Addr} {tc : Nat} {P : List (Int × Int)} {S : List TriM} (t : Nat) (T : TriM) (a b : Int) (k : Nat) (hk : k < 3) (w : World) (h : MeshR w mb pb pc ta tc P S) (hT : S[t]? = some T) (hj : (edgeT T a b = (k : Int) ∧ edgeT T b a = -1) ∨ (edgeT T a b = -1 ∧ edgeT T b a = (k : Int))) :
  Calls Tryz.prog 104 #[.pointer (some ⟨mb, 0, none⟩), .int .i64 (t : Int), .int .i64 a, .int .i64 b] w fun e w' => e = .returned (.int .i64 (T.n k)) ∧ Below w.heap.size w w' := by
 obtain ⟨z, hz⟩ : ∃ z : Int, (k : Int) = z := ⟨_, rfl⟩
 obtain ⟨j1, h1⟩ : ∃ j, edgeT T a b = j := ⟨_, rfl⟩
 obtain ⟨j2, h2⟩ : ∃ j, edgeT T b a = j := ⟨_, rfl⟩
 rw [h1, h2, hz] at hj
 have HE1 := Lib.hid (show ∀ W : World, Below w.heap.size w W → Calls Tryz.prog 147 #[.pointer (some ⟨mb, 0, none⟩), .int .i64 (t : Int), .int .i64 a, .int .i64 b] W fun e w' => e = .returned (.int .i64 j1) ∧ Below W.heap.size W w' from fun W hW => by have := cvEdge_any t T a b W (h.below hW) hT; rw [h1] at this; exact this)
 have HE2 := Lib.hid (show ∀ W : World, Below w.heap.size w W → Calls Tryz.prog 147 #[.pointer (some ⟨mb, 0, none⟩), .int .i64 (t : Int), .int .i64 b, .int .i64 a] W fun e w' => e = .returned (.int .i64 j2) ∧ Below W.heap.size W w' from fun W hW => by have := cvEdge_any t T b a W (h.below hW) hT; rw [h2] at this; exact this)
 have hlt := (List.getElem?_eq_some_iff.1 hT).1
 have hsh := h.short.2
 obtain ⟨len, hlen⟩ : ∃ len, S.length = len := ⟨_, rfl⟩
 rw [hlen] at hsh hlt
 have i1 : (0 : Int) ≤ (t : Int) := by omega
 have i2 : (t : Int) < (len : Int) := by omega
 have H := Lib.hid h; have HT := Lib.hid hT; have HLEN := Lib.hid hlen
 clear h hT hlen h1 h2
 obtain rfl | rfl | rfl : k = 0 ∨ k = 1 ∨ k = 2 := by omega
 ·obtain rfl : z = 0 := by omega
  clear hz hk
  obtain ⟨rfl, rfl⟩ | ⟨rfl, rfl⟩ := hj
  all_goals (
   go_enter Tryz.func104, Tryz.ntmps104
   go_wp2_with fail
   refine (HE1.out _ (Below.refl _ _)).mono ?_
   rintro e w2 ⟨rfl, hb2⟩
   have HB2 := Lib.hid hb2; clear hb2
   go_wp2_with fail
   refine (HE2.out _ HB2.out).mono ?_
   rintro e w3 ⟨rfl, hb3⟩
   have HB3 := Lib.hid (HB2.out.trans (hb3.mono HB2.out.size)); clear hb3
   have hr := H.out.below HB3.out
   obtain ⟨tb, hta, -, h9⟩ := hr.tris.get HT.out
   subst hta
   have b1 := hr.box.c1
   rw [HLEN.out] at b1
   have c3 := h9.c3
   clear hr h9
   go_wp2
   go_ret
   exact ⟨rfl, HB3.out⟩)
 ·obtain rfl : z = 1 := by omega
  clear hz hk
  obtain ⟨rfl, rfl⟩ | ⟨rfl, rfl⟩ := hj
  all_goals (
   go_enter Tryz.func104, Tryz.ntmps104
   go_wp2_with fail
   refine (HE1.out _ (Below.refl _ _)).mono ?_
   rintro e w2 ⟨rfl, hb2⟩
   have HB2 := Lib.hid hb2; clear hb2
   go_wp2_with fail
   refine (HE2.out _ HB2.out).mono ?_
   rintro e w3 ⟨rfl, hb3⟩
   have HB3 := Lib.hid (HB2.out.trans (hb3.mono HB2.out.size)); clear hb3
   have hr := H.out.below HB3.out
   obtain ⟨tb, hta, -, h9⟩ := hr.tris.get HT.out
   subst hta
   have b1 := hr.box.c1
   rw [HLEN.out] at b1
   have c3 := h9.c4
   clear hr h9
   go_wp2
   go_ret
   exact ⟨rfl, HB3.out⟩)
 ·obtain rfl : z = 2 := by omega
  clear hz hk
  obtain ⟨rfl, rfl⟩ | ⟨rfl, rfl⟩ := hj
  all_goals (
   go_enter Tryz.func104, Tryz.ntmps104
   go_wp2_with fail
   refine (HE1.out _ (Below.refl _ _)).mono ?_
   rintro e w2 ⟨rfl, hb2⟩
   have HB2 := Lib.hid hb2; clear hb2
   go_wp2_with fail
   refine (HE2.out _ HB2.out).mono ?_
   rintro e w3 ⟨rfl, hb3⟩
   have HB3 := Lib.hid (HB2.out.trans (hb3.mono HB2.out.size)); clear hb3
   have hr := H.out.below HB3.out
   obtain ⟨tb, hta, -, h9⟩ := hr.tris.get HT.out
   subst hta
   have b1 := hr.box.c1
   rw [HLEN.out] at b1
   have c3 := h9.c5
   clear hr h9
   go_wp2
   go_ret
   exact ⟨rfl, HB3.out⟩)
end Go.Proofs.YtnabdopnlinklaaGreat
/- cavity's begin. Written by tools/cav4.py. -/
namespace Go.Proofs.YtnabdopnlinklaaGreat
open Go.RowKit Go.MagM Go.Maps
theorem HoleR.mono {w : World} {lo lo' hb mb b : Nat} {v : Value} {ts : List Int} (h : HoleR w lo hb mb b v ts) (hl : lo' ≤ lo) : HoleR w lo' hb mb b v ts := by
 refine ⟨h.box, ⟨h.row.1, ?_⟩, h.map, ⟨by have := h.low; omega, by have := h.low; omega, h.low.2.2⟩, h.short⟩
 rcases h.row.2 with h1 | ⟨g, cap, cur, h1, h2, h3⟩
 ·exact .inl h1
 ·exact .inr ⟨g, cap, cur, h1, by omega, h3⟩
set_option maxRecDepth 100000 in
set_option maxHeartbeats 8000000 in
theorem cvBegin_off {mb pb pc : Nat} {ta : Option Addr} {tc : Nat} {P : List (Int × Int)} {S : List TriM} (t : Nat) (T : TriM) (kd : Int) (a b : Int) (w : World) (h : MeshR w mb pb pc ta tc P S) (hT : S[t]? = some T) (hkd : (kd == 1) = false) :
  Calls Tryz.prog 48 #[.pointer (some ⟨mb, 0, none⟩), .agg #[.int .i64 kd, .int .i64 (t : Int), .int .i64 a, .int .i64 b]] w fun e w' => ∃ (hb m : Nat) (v : Value), e = .returned (.pointer (some ⟨hb, 0, none⟩)) ∧ HoleR w' w.heap.size hb mb m v (takeM P T (t : Int) []) ∧ Below w.heap.size w w' := by
 obtain ⟨w1, hw1, pp, hb1, hs1⟩ := new_box w _ rfl [.int .i64 kd, .int .i64 (t : Int), .int .i64 a, .int .i64 b] 28
 obtain ⟨hrun, hmap⟩ := run_new_map (P := Tryz.prog) w1 110 3
 obtain ⟨w2, hw2⟩ : ∃ w2, w1.alloc (.map #[] 0) = w2 := ⟨_, rfl⟩
 rw [hw2] at hrun hmap
 have hb2 : Below w1.heap.size w1 w2 := by rw [← hw2]; exact (Below.refl _ _).alloc (Nat.le_refl _) _
 have hs2 : w2.heap.size = w1.heap.size + 1 := by rw [← hw2]; simp
 obtain ⟨w3, hw3, ph, hb3, hs3⟩ := new_box w2 _ rfl [.pointer (some ⟨mb, 0, none⟩), .slice none 0 0, .map (some w1.heap.size)] 112
 have HH := Lib.hid (show HoleR w3 w1.heap.size w2.heap.size mb w1.heap.size (.slice none 0 0) [] from ⟨ph, RowN.nil _ _ _ _, hmap.below hb3, ⟨by omega, by omega, by omega, by simp [Value.ownBlock], by simp [Value.ownBlock]⟩, by simp⟩)
 have HB3 := Lib.hid (show Below w1.heap.size w1 w3 from hb2.trans (hb3.mono (by omega)))
 have HB1 := Lib.hid hb1
 have PP := Lib.hid ((pp.below hb2).below hb3)
 have H := Lib.hid (h.below hb1); have PP1 := Lib.hid pp; have HT := Lib.hid hT
 have p1 := PP.out.c 1 _ rfl
 clear pp hmap hb1 hb2 hb3 hs1 hs2 hs3 ph h hT hw2
 go_enter Tryz.func48, Tryz.ntmps48
 go_wp2_with fail
 refine (cvTake_any t T w3 H.out HB3.out HH.out HT.out (by simp)).mono ?_
 rintro e w4 ⟨rfl, ⟨v4, hh4, -⟩, hb4⟩
 have HH4 := Lib.hid hh4; have HB4 := Lib.hid hb4
 clear hh4 hb4 p1 hrun hw1 hw3
 have PP4 := Lib.hid (PP1.out.below HB4.out)
 have p0 := PP4.out.c 0 _ rfl; have p1 := PP4.out.c 1 _ rfl; have p2 := PP4.out.c 2 _ rfl; have p3 := PP4.out.c 3 _ rfl
 go_wp2
 go_ret
 exact ⟨_, _, _, rfl, HH4.out.mono HB1.out.size, HB1.out.trans (HB4.out.mono HB1.out.size)⟩
set_option maxRecDepth 100000 in
set_option maxHeartbeats 8000000 in
theorem cvBegin_on {mb pb pc : Nat} {ta : Option Addr} {tc : Nat} {P : List (Int × Int)} {S : List TriM} (t : Nat) (T : TriM) (a b : Int) (w : World) (h : MeshR w mb pb pc ta tc P S) (hT : S[t]? = some T) (k : Nat) (hk : k < 3) (u : Nat) (U : TriM) (hu : T.n k = (u : Int)) (hU : S[u]? = some U) (hj : (edgeT T a b = (k : Int) ∧ edgeT T b a = -1) ∨ (edgeT T a b = -1 ∧ edgeT T b a = (k : Int))) :
  Calls Tryz.prog 48 #[.pointer (some ⟨mb, 0, none⟩), .agg #[.int .i64 1, .int .i64 (t : Int), .int .i64 a, .int .i64 b]] w fun e w' => ∃ (hb m : Nat) (v : Value), e = .returned (.pointer (some ⟨hb, 0, none⟩)) ∧ HoleR w' w.heap.size hb mb m v (takeM P U (u : Int) (takeM P T (t : Int) [])) ∧ Below w.heap.size w w' := by
 obtain ⟨w1, hw1, pp, hb1, hs1⟩ := new_box w _ rfl [.int .i64 1, .int .i64 (t : Int), .int .i64 a, .int .i64 b] 28
 obtain ⟨hrun, hmap⟩ := run_new_map (P := Tryz.prog) w1 110 3
 obtain ⟨w2, hw2⟩ : ∃ w2, w1.alloc (.map #[] 0) = w2 := ⟨_, rfl⟩
 rw [hw2] at hrun hmap
 have hb2 : Below w1.heap.size w1 w2 := by rw [← hw2]; exact (Below.refl _ _).alloc (Nat.le_refl _) _
 have hs2 : w2.heap.size = w1.heap.size + 1 := by rw [← hw2]; simp
 obtain ⟨w3, hw3, ph, hb3, hs3⟩ := new_box w2 _ rfl [.pointer (some ⟨mb, 0, none⟩), .slice none 0 0, .map (some w1.heap.size)] 112
 have HH := Lib.hid (show HoleR w3 w1.heap.size w2.heap.size mb w1.heap.size (.slice none 0 0) [] from ⟨ph, RowN.nil _ _ _ _, hmap.below hb3, ⟨by omega, by omega, by omega, by simp [Value.ownBlock], by simp [Value.ownBlock]⟩, by simp⟩)
 have HB3 := Lib.hid (show Below w1.heap.size w1 w3 from hb2.trans (hb3.mono (by omega)))
 have HB1 := Lib.hid hb1
 have PP := Lib.hid ((pp.below hb2).below hb3)
 have H := Lib.hid (h.below hb1); have PP1 := Lib.hid pp; have HT := Lib.hid hT
 have p1 := PP.out.c 1 _ rfl
 clear pp hmap hb1 hb2 hb3 hs1 hs2 hs3 ph h hT hw2
 go_enter Tryz.func48, Tryz.ntmps48
 go_wp2_with fail
 refine (cvTake_any t T w3 H.out HB3.out HH.out HT.out (by simp)).mono ?_
 rintro e w4 ⟨rfl, ⟨v4, hh4, -⟩, hb4⟩
 have HH4 := Lib.hid hh4; have HB4 := Lib.hid hb4
 clear hh4 hb4 p1 hrun hw1 hw3
 have PP4 := Lib.hid (PP1.out.below HB4.out)
 have p0 := PP4.out.c 0 _ rfl; have p1 := PP4.out.c 1 _ rfl; have p2 := PP4.out.c 2 _ rfl; have p3 := PP4.out.c 3 _ rfl
 have HU := Lib.hid hU
 have HA := Lib.hid (show ∀ W : World, Below w1.heap.size w1 W → Calls Tryz.prog 104 #[.pointer (some ⟨mb, 0, none⟩), .int .i64 (t : Int), .int .i64 a, .int .i64 b] W fun e w' => e = .returned (.int .i64 (u : Int)) ∧ Below W.heap.size W w' from fun W hW => by have := cvAcross_any t T a b k hk W (H.out.below hW) HT.out hj; rw [hu] at this; exact this)
 have HLT := Lib.hid (show (takeM P T (t : Int) []).length < 1000000 by unfold takeM; split <;> simp)
 clear hj hu hU
 go_wp2_with fail
 refine (HA.out _ HB4.out).mono ?_
 rintro e w5 ⟨rfl, hb5⟩
 have HH5 := Lib.hid (HH4.out.below hb5)
 have HB5 := Lib.hid (HB4.out.trans (hb5.mono HB4.out.size))
 clear hb5 p0 p1 p2 p3
 go_wp2_with fail
 refine (cvTake_any u U w5 H.out HB5.out HH5.out HU.out HLT.out).mono ?_
 rintro e w6 ⟨rfl, ⟨v6, hh6, -⟩, hb6⟩
 have HH6 := Lib.hid hh6; have HB6 := Lib.hid hb6
 clear hh6 hb6
 go_wp2
 go_ret
 exact ⟨_, _, _, rfl, HH6.out.mono HB1.out.size, HB1.out.trans (HB6.out.mono HB1.out.size)⟩
end Go.Proofs.YtnabdopnlinklaaGreat
/- cavity's rim, side by side, ahead of inRow. -/
namespace Go.MagM
open Go.RowKit
/-- A Side. -/
structure SideM where
 a : Int
 b : Int
 u : Int
 i : Int
 f : Bool
def SideM.cells (s : SideM) : List Value := [.int .i64 s.a, .int .i64 s.b, .int .i64 s.u, .int .i64 s.i, .bool s.f]
def sideCells (l : List SideM) : List Value := l.flatMap SideM.cells
theorem sideCells_app (l k : List SideM) : sideCells (l ++ k) = sideCells l ++ sideCells k := List.flatMap_append
theorem sideCells_get : ∀ (l : List SideM) (i j : Nat) (s : SideM), l[i]? = some s → j < 5 → (sideCells l)[i * 5 + j]? = s.cells[j]?
 | s :: l, 0, j, s', h, hj => by
  cases h
  show (s.cells ++ sideCells l)[0 * 5 + j]? = _
  rw [Nat.zero_mul, Nat.zero_add, List.getElem?_append_left (by show j < 5; exact hj)]
 | s :: l, i + 1, j, s', h, hj => by
  show (s.cells ++ sideCells l)[(i + 1) * 5 + j]? = _
  rw [List.getElem?_append_right (by show 5 ≤ _; omega)]
  have e : (i + 1) * 5 + j - s.cells.length = i * 5 + j := by show (i + 1) * 5 + j - 5 = _; omega
  rw [e]
  exact sideCells_get l i j s' (by simpa using h) hj
/-- Which of U's edges goes so. -/
def outI (S : List TriM) (u a b : Int) : Int := match S[u.toNat]? with
 | some U => edgeT U a b
 | none => -1
/-- Edge i of T, as a side. -/
def sideS (S : List TriM) (T : TriM) (i : Nat) : SideM := ⟨(edgeV T i).1, (edgeV T i).2, T.n i, outI S (T.n i) (edgeV T i).2 (edgeV T i).1, T.f i⟩
/-- The sides of T's first n edges across which lies what isn't taken. -/
def rimI (S : List TriM) (ts : List Int) (T : TriM) : Nat → List SideM
 | 0 => []
 | n + 1 => rimI S ts T n ++ (if T.n n ∈ ts then [] else [sideS S T n])
def rimT (S : List TriM) (ts : List Int) (t : Int) : List SideM := match S[t.toNat]? with
 | some T => rimI S ts T 3
 | none => []
/-- The sides of the first n of those that are taken. -/
def rimP (S : List TriM) (ts : List Int) : Nat → List SideM
 | 0 => []
 | n + 1 => rimP S ts n ++ (match ts[n]? with
  | some t => rimT S ts t
  | none => [])
theorem rimI_le (S : List TriM) (ts : List Int) (T : TriM) : ∀ n, (rimI S ts T n).length ≤ n
 | 0 => Nat.le_refl _
 | n + 1 => by
  have := rimI_le S ts T n
  rw [rimI, List.length_append]
  split <;> simp <;> omega
theorem rimT_le (S : List TriM) (ts : List Int) (t : Int) : (rimT S ts t).length ≤ 3 := by
 unfold rimT; split
 ·exact rimI_le _ _ _ _
 ·simp
theorem rimP_le (S : List TriM) (ts : List Int) : ∀ n, (rimP S ts n).length ≤ 3 * n
 | 0 => Nat.le_refl _
 | n + 1 => by
  have := rimP_le S ts n
  rw [rimP, List.length_append]
  cases ts[n]? with
  | none => simp; omega
  | some t => have := rimT_le S ts t; simp only []; omega
theorem rimP_on {S : List TriM} {ts : List Int} {n t : Nat} {T : TriM} (h : ts[n]? = some (t : Int)) (hT : S[t]? = some T) : rimP S ts (n + 1) = rimP S ts n ++ rimI S ts T 3 := by
 rw [rimP, h]
 simp only []
 unfold rimT
 rw [Int.toNat_natCast, hT]
end Go.MagM
namespace Go.Proofs.YtnabdopnlinklaaGreat
open Go.RowKit Go.MagM Go.Maps
theorem infoSide : (Tryz.prog.info? 50).map (fun i => (i.zero, i.size, i.bytes)) = some (some (.agg #[.int .i64 0, .int .i64 0, .int .i64 0, .int .i64 0, .bool false]), 5, 40) := by kernel_rfl
theorem sideV_is (S : List TriM) (T : TriM) (i : Nat) {u : Nat} {U : TriM} (hu : T.n i = (u : Int)) (hU : S[u]? = some U) : sideV (edgeV T i).1 (edgeV T i).2 (u : Int) (edgeT U (edgeV T i).2 (edgeV T i).1) (T.f i) = .agg (sideS S T i).cells.toArray := by
 unfold sideV sideS SideM.cells outI
 simp only []
 rw [hu, Int.toNat_natCast, hU]
end Go.Proofs.YtnabdopnlinklaaGreat
/- cavity's inRow. -/
namespace Go.MagM
open Go.RowKit
/-- Of the first n sides the last one that begins at a. -/
def lookN (l : List SideM) (a : Int) : Nat → Option SideM
 | 0 => none
 | n + 1 => match l[n]? with
  | some s => if a = s.a then some s else lookN l a n
  | none => lookN l a n
def firstA (l : List SideM) : Int := match l[0]? with
 | some s => s.a
 | none => 0
/-- The least beginning of the first n. -/
def leastN (l : List SideM) : Nat → Int
 | 0 => firstA l
 | n + 1 => match l[n]? with
  | some s => min (leastN l n) s.a
  | none => leastN l n
/-- The sides one behind the other, from a on: no more than n. -/
def chainN (L : Int → Option SideM) : Nat → Int → List SideM
 | 0, _ => []
 | n + 1, a => match L a with
  | some s => s :: chainN L n s.b
  | none => []
def inRowM (l : List SideM) : List SideM := chainN (fun a => lookN l a l.length) l.length (leastN l l.length)
theorem chainN_le (L : Int → Option SideM) : ∀ n a, (chainN L n a).length ≤ n
 | 0, _ => Nat.le_refl _
 | n + 1, a => by
  rw [chainN]
  cases L a with
  | none => simp
  | some s => have := chainN_le L n s.b; simp; exact this
theorem lookN_mem {l : List SideM} {a : Int} {s : SideM} : ∀ {n}, lookN l a n = some s → s ∈ l ∧ s.a = a
 | 0, h => by cases h
 | n + 1, h => by
  rw [lookN] at h
  cases e : l[n]? with
  | none => rw [e] at h; exact lookN_mem h
  | some x =>
   rw [e] at h
   simp only [] at h
   split at h
   ·rename_i ha
    cases h
    exact ⟨List.mem_of_getElem? e, ha.symm⟩
   ·exact lookN_mem h
theorem leastN_le {l : List SideM} : ∀ n, (∀ s ∈ l.take n, leastN l n ≤ s.a) ∧ (l ≠ [] → ∃ s ∈ l, s.a = leastN l n)
 | 0 => ⟨by simp, fun h => by
  cases l with
  | nil => exact absurd rfl h
  | cons s r => exact ⟨s, by simp, rfl⟩⟩
 | n + 1 => by
  obtain ⟨h1, h2⟩ := leastN_le (l := l) n
  rw [leastN, List.take_add_one]
  cases hs : l[n]? with
  | none =>
   simp only [Option.toList, List.append_nil]
   exact ⟨h1, h2⟩
  | some s =>
   simp only [Option.toList]
   refine ⟨fun x hx => ?_, fun hl => ?_⟩
   ·rcases List.mem_append.1 hx with hx | hx
    ·have := h1 x hx; omega
    ·simp only [List.mem_singleton] at hx; subst hx; omega
   ·obtain ⟨y, hy, e⟩ := h2 hl
    rcases Int.le_total (leastN l n) s.a with g | g
    ·exact ⟨y, hy, by omega⟩
    ·exact ⟨s, List.mem_of_getElem? hs, by omega⟩
theorem inRow_nil : inRowM [] = [] := rfl
end Go.MagM
namespace Go.Proofs.YtnabdopnlinklaaGreat
open Go.RowKit Go.MagM Go.Maps
/-- A map that tells which side begins at a point. -/
structure SideMap (w : World) (b : Nat) (L : Int → Option SideM) : Prop where
 at_ : ∃ m, MapB Tryz.prog 3 w b m ∧ (∀ e ∈ m, ∃ s : SideM, e = (.int .i64 s.a, .agg s.cells.toArray) ∧ L s.a = some s) ∧ (∀ a s, L a = some s → s.a = a ∧ (Value.int .i64 a, Value.agg s.cells.toArray) ∈ m)
theorem SideMap.lt {w : World} {b : Nat} {L : Int → Option SideM} (h : SideMap w b L) : b < w.heap.size := by obtain ⟨m, h1, -⟩ := h.at_; exact h1.lt
theorem SideMap.block {w w' : World} {b : Nat} {L : Int → Option SideM} (h : SideMap w b L) (e : w'.heap[b]? = w.heap[b]?) : SideMap w' b L := by obtain ⟨m, h1, h2⟩ := h.at_; exact ⟨m, h1.block e, h2⟩
theorem SideMap.below {w w' : World} {b : Nat} {L : Int → Option SideM} (h : SideMap w b L) (hw : Below w.heap.size w w') : SideMap w' b L := h.block (hw.block b h.lt)
theorem SideMap.look {w : World} {b : Nat} {L : Int → Option SideM} (h : SideMap w b L) {a : Int} (ha : -1000000 ≤ a ∧ a ≤ 1000000) :
  (Instr.lookup 203 (.map (some b)) (.int .i64 a) true).run Tryz.prog w = .ok (match L a with | some s => .tuple #[.agg s.cells.toArray, .bool true] | none => .tuple #[.agg #[.int .i64 0, .int .i64 0, .int .i64 0, .int .i64 0, .bool false], .bool false]) w := by
 obtain ⟨m, h1, h2, h3⟩ := h.at_
 rcases h1.look keyedI Tryz.underlying203 (keyI_of ha) (z := .agg #[.int .i64 0, .int .i64 0, .int .i64 0, .int .i64 0, .bool false]) (by kernel_rfl) true with ⟨v, hv, hr⟩ | ⟨hno, hr⟩
 ·obtain ⟨s, e, hs⟩ := h2 _ hv
  simp only [Prod.mk.injEq, Value.int.injEq, true_and] at e
  obtain ⟨rfl, rfl⟩ := e
  rw [hs]; exact hr
 ·cases hL : L a with
  | none => exact hr
  | some s => exact absurd (h3 a s hL).2 (hno _)
theorem SideMap.store {w : World} {b : Nat} {L : Int → Option SideM} (h : SideMap w b L) (s : SideM) (ha : -1000000 ≤ s.a ∧ s.a ≤ 1000000) :
  ∃ w', (Instr.mapUpdate 203 (.map (some b)) (.int .i64 s.a) (.agg s.cells.toArray)).run Tryz.prog w = .ok () w' ∧ Turned w w' b ∧ SideMap w' b (fun a => if a = s.a then some s else L a) := by
 obtain ⟨m, h1, h2, h3⟩ := h.at_
 obtain ⟨w', m', k1, k2, k3, k4⟩ := h1.store keyedI Tryz.underlying203 (keyI_of ha) (.agg s.cells.toArray)
 refine ⟨w', k1, k2, ⟨m', k3, ?_, ?_⟩⟩
 ·intro e he
  have hin : e = (.int .i64 s.a, .agg s.cells.toArray) ∨ (e ∈ m ∧ e.1 ≠ .int .i64 s.a) := by
   rcases k4 with ⟨hno, rfl⟩ | ⟨j, u, hj, rfl⟩
   ·rcases List.mem_append.1 he with he | he
    ·refine .inr ⟨he, fun e1 => hno e.2 ?_⟩
     rw [← e1]; exact he
    ·simp at he; exact .inl he
   ·obtain ⟨i, hi⟩ := List.mem_iff_getElem?.1 he
    rw [List.getElem?_set] at hi
    split at hi
    ·split at hi
     ·cases hi; exact .inl rfl
     ·cases hi
    ·rename_i hij
     refine .inr ⟨List.mem_of_getElem? hi, fun e1 => ?_⟩
     have a1 : (m.map (·.1))[i]? = some (.int .i64 s.a) := by rw [List.getElem?_map, hi, ← e1]; rfl
     have a2 : (m.map (·.1))[j]? = some (.int .i64 s.a) := by rw [List.getElem?_map, hj]; rfl
     exact hij ((List.getElem?_inj (by have := (List.getElem?_eq_some_iff.1 a1).1; exact this) h1.once).1 (a1.trans a2.symm)).symm
  rcases hin with rfl | ⟨hm, hne⟩
  ·exact ⟨s, rfl, by simp⟩
  ·obtain ⟨x, rfl, hx⟩ := h2 e hm
   refine ⟨x, rfl, ?_⟩
   rw [if_neg (fun e1 => hne (by rw [e1]))]; exact hx
 ·intro a x hx
  split at hx
  ·rename_i e1
   cases hx
   refine ⟨e1.symm, ?_⟩
   rw [e1]
   rcases k4 with ⟨-, rfl⟩ | ⟨j, u, hj, rfl⟩
   ·simp
   ·exact List.mem_of_getElem? (i := j) (by rw [List.getElem?_set, if_pos rfl, if_pos (List.getElem?_eq_some_iff.1 hj).1])
  ·rename_i hne
   obtain ⟨e1, hm⟩ := h3 a x hx
   refine ⟨e1, ?_⟩
   rcases k4 with ⟨-, rfl⟩ | ⟨j, u, hj, rfl⟩
   ·exact List.mem_append_left _ hm
   ·obtain ⟨i, hi⟩ := List.mem_iff_getElem?.1 hm
    refine List.mem_of_getElem? (i := i) ?_
    rw [List.getElem?_set, if_neg ?_]
    ·exact hi
    ·rintro rfl
     rw [hj] at hi
     simp only [Option.some.injEq, Prod.mk.injEq, Value.int.injEq, true_and] at hi
     exact hne hi.1.symm
end Go.Proofs.YtnabdopnlinklaaGreat
/- cavity's inRow: the walk. -/
namespace Go.Proofs.YtnabdopnlinklaaGreat
open Go.RowKit Go.MagM Go.Maps
set_option maxRecDepth 100000 in
set_option maxHeartbeats 8000000 in
theorem cvInRow_any (base : Nat) (v : Value) (l : List SideM) (w : World) (hrow : RowN w base 50 5 v l.length (sideCells l)) (hl : l.length ≤ 1000000) (hab : ∀ s ∈ l, (-1000000 ≤ s.a ∧ s.a ≤ 1000000) ∧ (-1000000 ≤ s.b ∧ s.b ≤ 1000000)) :
  Calls Tryz.prog 107 #[v] w fun e w' => ∃ v', e = .returned v' ∧ RowN w' w.heap.size 50 5 v' (inRowM l).length (sideCells (inRowM l)) ∧ Below w.heap.size w w' := by
 obtain ⟨len, hlen⟩ : ∃ len, l.length = len := ⟨_, rfl⟩
 rw [hlen] at hrow hl
 rcases hrow.2 with ⟨rfl, h0⟩ | ⟨g, cap, cur, rfl, -⟩
 ·subst h0
  obtain rfl : l = [] := List.eq_nil_of_length_eq_zero hlen
  clear hrow hl hab
  go_enter Tryz.func107, Tryz.ntmps107
  go_wp2
  go_ret
  exact ⟨_, rfl, by rw [inRow_nil]; exact RowN.nil _ _ _ _, Below.refl _ _⟩
 by_cases hz : len = 0
 ·subst hz
  obtain rfl : l = [] := List.eq_nil_of_length_eq_zero hlen
  clear hrow hl hab
  go_enter Tryz.func107, Tryz.ntmps107
  go_wp2
  go_ret
  exact ⟨_, rfl, by rw [inRow_nil]; exact RowN.nil _ _ _ _, Below.refl _ _⟩
 ·obtain ⟨i0, hi, hz0, hz1, hz2⟩ := info_parts infoSide
  have HI := Lib.hid hi; have HZ0 := Lib.hid hz0; have HZ1 := Lib.hid hz1; have HZ2 := Lib.hid hz2
  clear hi hz0 hz1 hz2
  obtain ⟨s0, hs0⟩ : ∃ s, l[0]? = some s := ⟨_, List.getElem?_eq_getElem (by omega)⟩
  have hget : ∀ (W : World), Below w.heap.size w W → ∀ (n : Nat) (s : SideM), l[n]? = some s → W.cell? ⟨g, n * 5, none⟩ = some (.int .i64 s.a) ∧ W.cell? ⟨g, n * 5 + 1, none⟩ = some (.int .i64 s.b) ∧ W.cell? ⟨g, n * 5 + 2, none⟩ = some (.int .i64 s.u) ∧ W.cell? ⟨g, n * 5 + 3, none⟩ = some (.int .i64 s.i) ∧ W.cell? ⟨g, n * 5 + 4, none⟩ = some (.bool s.f) := by
   intro W hW n s hs
   have hr := hrow.below hW
   exact ⟨hr.cells rfl _ _ (by rw [show n * 5 = n * 5 + 0 by omega, sideCells_get l n 0 s hs (by omega)]; rfl), hr.cells rfl _ _ (by rw [sideCells_get l n 1 s hs (by omega)]; rfl), hr.cells rfl _ _ (by rw [sideCells_get l n 2 s hs (by omega)]; rfl), hr.cells rfl _ _ (by rw [sideCells_get l n 3 s hs (by omega)]; rfl), hr.cells rfl _ _ (by rw [sideCells_get l n 4 s hs (by omega)]; rfl)⟩
  obtain ⟨a0, ha0⟩ : ∃ a, s0.a = a := ⟨_, rfl⟩
  have d0 := (hget w (Below.refl _ _) 0 s0 hs0).1
  rw [Nat.zero_mul, ha0] at d0
  have e0 : ((len : Int) == 0) = false := by simp; omega
  have e00 : (len == 0) = false := by simp; omega
  obtain ⟨hrun, hmap⟩ := run_new_map (P := Tryz.prog) w 203 3
  obtain ⟨w1, hw1⟩ : ∃ w1, w.alloc (.map #[] 0) = w1 := ⟨_, rfl⟩
  rw [hw1] at hrun hmap
  have hb1 : Below w.heap.size w w1 := by rw [← hw1]; exact (Below.refl _ _).alloc (Nat.le_refl _) _
  have hs1 : w1.heap.size = w.heap.size + 1 := by rw [← hw1]; simp
  have d1 := (hget w1 hb1 0 s0 hs0).1
  rw [Nat.zero_mul, ha0] at d1
  have HGET := Lib.hid hget; have HLEN := Lib.hid hlen; have HAB := Lib.hid hab
  have HS1 := Lib.hid hs1; have HB1 := Lib.hid hb1
  have HM1 := Lib.hid (show SideMap w1 w.heap.size (fun a => lookN l a 0) from ⟨[], hmap, by simp, fun a s h => by cases h⟩)
  have HA0 := Lib.hid (show leastN l 0 = a0 by unfold leastN firstA; rw [hs0]; exact ha0)
  have j0 : (0 : Int) < (len : Int) := by omega
  obtain ⟨R, hR⟩ : ∃ R, inRowM l = R := ⟨_, rfl⟩
  rw [hR]
  have HRR := Lib.hid hR
  clear hrow hget hlen hab hs1 hb1 hmap hs0 ha0 hw1 hR
  go_enter Tryz.func107, Tryz.ntmps107
  go_wp2
  clear d0 d1 hrun j0
  go_loopw [4, 20] (fun av iv wr => ∃ (n : Nat), n ≤ len ∧ av = .int .i64 (leastN l n) ∧ iv = .int .i64 (n : Int) ∧ SideMap wr w.heap.size (fun a => lookN l a n) ∧ Below w.heap.size w wr) (fun _ iv _ => len - (intOf iv).toNat)
  case atStart => exact ⟨0, Nat.zero_le _, by rw [HA0.out], rfl, HM1.out, HB1.out⟩
  case round =>
   obtain ⟨n, hn, rfl, rfl, hm, hb⟩ := hrel
   by_cases hlt : n < len
   ·have e1 : decide ((n : Int) < (len : Int)) = true := decide_eq_true (by omega)
    have e2 : decide (n < len) = true := decide_eq_true hlt
    obtain ⟨s, hs⟩ : ∃ s, l[n]? = some s := ⟨_, List.getElem?_eq_getElem (by have := HLEN.out; omega)⟩
    obtain ⟨sa, sb, su, si, sf⟩ := s
    obtain ⟨c0, c1, c2, c3, c4⟩ := HGET.out wr hb n _ hs
    simp only [] at c0 c1 c2 c3 c4
    have i1 : (0 : Int) ≤ (n : Int) := by omega
    have i2 : (n : Int) < (len : Int) := by omega
    obtain ⟨w3, hw3, ps, hb3, hs3⟩ := new_box wr _ rfl [.int .i64 sa, .int .i64 sb, .int .i64 su, .int .i64 si, .bool sf] 50
    have hsl := List.mem_of_getElem? hs
    obtain ⟨w4, hrun, htu, hm4⟩ := (hm.below hb3).store ⟨sa, sb, su, si, sf⟩ (HAB.out _ hsl).1
    have hml := hm.lt
    have ps4 := ps.turned htu (by omega)
    have p0 := ps4.c 0 _ rfl
    have q0 := ps.c 0 _ rfl; have q1 := ps.c 1 _ rfl; have q2 := ps.c 2 _ rfl; have q3 := ps.c 3 _ rfl; have q4 := ps.c 4 _ rfl
    have hb4 : Below w.heap.size w w4 := (hb.trans (hb3.mono hb.size)).trans (htu.below (Nat.le_refl _))
    have HM4 := Lib.hid (show SideMap w4 w.heap.size (fun a => lookN l a (n + 1)) by
     have e : (fun a => lookN l a (n + 1)) = (fun a => if a = sa then some ⟨sa, sb, su, si, sf⟩ else lookN l a n) := by
      funext a; rw [lookN, hs]
     rw [e]; exact hm4)
    have HB4 := Lib.hid hb4
    have HLE := Lib.hid (show leastN l (n + 1) = min (leastN l n) sa by rw [leastN, hs])
    obtain ⟨le, hle⟩ : ∃ z, leastN l n = z := ⟨_, rfl⟩
    have HLL := Lib.hid hle
    rw [hle]
    have hrun' : Sem.run Tryz.prog (Instr.mapUpdate 203 (.map (some w.heap.size)) (.int .i64 sa) (.agg #[.int .i64 sa, .int .i64 sb, .int .i64 su, .int .i64 si, .bool sf])) w3 = .ok () w4 := hrun
    clear hm hb hs hsl hrun htu hm4 hb3 hs3 ps ps4 hb4 hml hle
    go_wp2
    refine ⟨⟨n + 1, by omega, ?_, by go_num, HM4.out, HB4.out⟩, by simp [intOf]; omega⟩
    rw [HLE.out, HLL.out]
    congr 1
    by_cases hc : sa < le
    ·rw [if_pos hc]; omega
    ·rw [if_neg hc]; omega
   ·obtain rfl : n = len := by omega
    have e1 : decide ((n : Int) < (n : Int)) = false := decide_eq_false (by omega)
    obtain ⟨L, hL⟩ : ∃ L, (fun a => lookN l a n) = L := ⟨_, rfl⟩
    rw [hL] at hm
    have HLM := Lib.hid (show ∀ a s, L a = some s → s ∈ l from fun a s h => by rw [← hL] at h; exact (lookN_mem h).1)
    have HR := Lib.hid (show inRowM l = chainN L n (leastN l n) by unfold inRowM; rw [HLEN.out, hL])
    obtain ⟨le, hle⟩ : ∃ z, leastN l n = z := ⟨_, rfl⟩
    have HLR := Lib.hid (show -1000000 ≤ le ∧ le ≤ 1000000 by
     obtain ⟨s, hs, e⟩ := (leastN_le (l := l) n).2 (by rintro rfl; exact hz HLEN.out.symm)
     rw [← hle, ← e]; exact (HAB.out s hs).1)
    rw [hle] at HR
    rw [hle]
    have HM := Lib.hid hm; have HB := Lib.hid hb
    rw [HRR.out] at HR
    clear hm hb hL hle hlt hn
    go_wp2
    go_loopw [4, 7, 35] (fun av ov iv wr => ∃ (k : Nat) (a : Int) (vv : Value) (done : List SideM), k ≤ n ∧ av = .int .i64 a ∧ vv = ov ∧ iv = .int .i64 (k : Int) ∧ RowN wr (w.heap.size + 1) 50 5 vv done.length (sideCells done) ∧ done.length ≤ k ∧ R = done ++ chainN L (n - k) a ∧ (-1000000 ≤ a ∧ a ≤ 1000000) ∧ SideMap wr w.heap.size L ∧ Below w.heap.size w wr) (fun _ _ iv _ => n - (intOf iv).toNat)
    case atStart => exact ⟨0, le, _, [], Nat.zero_le _, rfl, rfl, rfl, RowN.nil _ _ _ _, Nat.zero_le _, by rw [HR.out]; rfl, HLR.out, HM.out, HB.out⟩
    case round =>
     obtain ⟨k, a, vv, done, hk, rfl, rfl, rfl, hrow, hdk, hR, har, hm, hb⟩ := hrel
     have hfin : ∀ (wf : World), RowN wf (w.heap.size + 1) 50 5 vv done.length (sideCells done) → R = done → RowN wf w.heap.size 50 5 vv R.length (sideCells R) := by
      intro wf hr e
      rw [e]
      refine ⟨hr.1, ?_⟩
      rcases hr.2 with h1 | ⟨g1, cap1, cur1, h1, h2, h3⟩
      ·exact .inl h1
      ·exact .inr ⟨g1, cap1, cur1, h1, by omega, h3⟩
     have HFIN := Lib.hid hfin
     clear hfin
     by_cases hlt : k < n
     ·have e2 : decide ((k : Int) < (n : Int)) = true := decide_eq_true (by omega)
      have e3 : decide (k < n) = true := decide_eq_true hlt
      have hlk := hm.look har
      cases hLa : L a with
      | none =>
       rw [hLa] at hlk
       simp only [] at hlk
       have HE := Lib.hid (show R = done by rw [hR, show n - k = (n - k - 1) + 1 by omega, chainN, hLa]; simp)
       have HROW := Lib.hid hrow; have HBB := Lib.hid hb
       clear hrow hR hm hb hLa
       go_wp2
       go_ret
       exact ⟨_, rfl, HFIN.out _ (HROW.out.below ((Below.refl _ _).alloc (Nat.le_refl _) _)) HE.out, HBB.out.alloc HBB.out.size _⟩
      | some s =>
       rw [hLa] at hlk
       simp only [] at hlk
       have hsl := HLM.out a s hLa
       have hsb := (HAB.out s hsl).2
       have hRn : R = (done ++ [s]) ++ chainN L (n - (k + 1)) s.b := by
        rw [hR, show n - k = (n - (k + 1)) + 1 by omega, chainN, hLa]; simp
       obtain ⟨sa, sb, su, si, sf⟩ := s
       have hlk' : (Instr.lookup 203 (.map (some w.heap.size)) (.int .i64 a) true).run Tryz.prog wr = .ok (.tuple #[.agg #[.int .i64 sa, .int .i64 sb, .int .i64 su, .int .i64 si, .bool sf], .bool true]) wr := hlk
       obtain ⟨w3, hw3, ps, hb3, hs3⟩ := new_box wr _ rfl [.int .i64 sa, .int .i64 sb, .int .i64 su, .int .i64 si, .bool sf] 50
       obtain ⟨w4, hw4, pz, hb4, hs4⟩ := new_box w3 _ rfl [.int .i64 sa, .int .i64 sb, .int .i64 su, .int .i64 si, .bool sf] 50
       have hrow4 := (hrow.below hb3).below hb4
       have hbs := hb.size
       obtain ⟨v1, w5, hrun, rown, hgrow, -⟩ := run_append_row (P := Tryz.prog) w4 (w.heap.size + 1) 44 44 50 i0 _ 5 40 (by kernel_rfl) HI.out HZ0.out HZ1.out HZ2.out rfl (by intro u hu; simp [Value.cells] at hu; rcases hu with rfl | rfl | rfl | rfl | rfl <;> first | exact NoWord.int _ | exact NoWord.bool _) _ done.length _ hrow4 ⟨w3.heap.size, 0, none⟩ 1 1 [.int .i64 sa, .int .i64 sb, .int .i64 su, .int .i64 si, .bool sf] (by omega) rfl pz.news (by intro u hu; simp at hu; rcases hu with rfl | rfl | rfl | rfl | rfl <;> rfl) (by intro u hu; simp at hu; rcases hu with rfl | rfl | rfl | rfl | rfl <;> first | exact NoWord.int _ | exact NoWord.bool _) (by unfold maxLen; omega) (by omega) (by have := HS1.out; have := HM.out.lt; have := hm.lt; omega)
       have hne : ∀ g', vv.ownBlock = some g' → w.heap.size + 1 ≤ g' ∧ g' < wr.heap.size := fun g' hg => hrow.lt g' hg
       have ps4 := ps.below hb4
       have ps5 := ps4.grown hgrow (fun e => by have := hne _ e; omega) ps4.lt
       have hm4 := (hm.below hb3).below hb4
       have hm5 := hm4.block (hgrow.block _ hm4.lt (fun e => by have := hne _ e.symm; omega))
       have hb45 : Below w.heap.size w w4 := (hb.trans (hb3.mono hb.size)).trans (hb4.mono (by omega))
       have hb5 : Below w.heap.size w w5 := hb45.grown hgrow (by omega) (fun g' hg => by have := hne g' hg; omega)
       have FIN := Lib.hid (And.intro rown (And.intro hm5 hb5))
       have HRN := Lib.hid hRn; have HSB := Lib.hid hsb; have HDK := Lib.hid hdk
       have z0 := ps.c 0 _ rfl; have z1 := ps.c 1 _ rfl; have z2 := ps.c 2 _ rfl; have z3 := ps.c 3 _ rfl; have z4 := ps.c 4 _ rfl
       have y1 := ps5.c 1 _ rfl
       clear hrow hdk hR har hm hb hLa hlk hsl hsb hRn ps hb3 hs3 pz hb4 hs4 hrow4 hbs rown hgrow hne ps4 ps5 hm4 hm5 hb45 hb5
       go_wp2_with (refine wpList_append_row rfl _ _ 44 rfl rfl rfl hrun ?_)
       have FI := FIN.out
       refine ⟨⟨k + 1, sb, _, done ++ [⟨sa, sb, su, si, sf⟩], by omega, rfl, rfl, by go_num, ?_, ?_, HRN.out, HSB.out, FI.2.1, FI.2.2⟩, by simp [intOf]; omega⟩
       ·rw [List.length_append, sideCells_app]
        exact FI.1
       ·rw [List.length_append]; have := HDK.out; simp; omega
     ·obtain rfl : k = n := by omega
      have e2 : decide ((k : Int) < (k : Int)) = false := decide_eq_false (by omega)
      have HE := Lib.hid (show R = done by rw [hR, Nat.sub_self]; simp [chainN])
      have HROW := Lib.hid hrow; have HBB := Lib.hid hb
      clear hrow hR hm hb
      go_wp2
      go_ret
      exact ⟨_, rfl, HFIN.out _ HROW.out HE.out, HBB.out⟩
end Go.Proofs.YtnabdopnlinklaaGreat
/- cavity's rim: the walk. -/
namespace Go.MagM
open Go.RowKit
/-- All corners are small numbers. -/
def SmallV (S : List TriM) : Prop := ∀ (t : Nat) (T : TriM), S[t]? = some T → ∀ k, -1000000 ≤ T.v k ∧ T.v k ≤ 1000000
theorem sideS_small {S : List TriM} (h : SmallV S) {t i : Nat} {T : TriM} (hT : S[t]? = some T) : (-1000000 ≤ (sideS S T i).a ∧ (sideS S T i).a ≤ 1000000) ∧ (-1000000 ≤ (sideS S T i).b ∧ (sideS S T i).b ≤ 1000000) := by
 unfold sideS edgeV
 match i with
 | 0 => exact ⟨h t T hT 1, h t T hT 2⟩
 | 1 => exact ⟨h t T hT 2, h t T hT 0⟩
 | _ + 2 => exact ⟨h t T hT 0, h t T hT 1⟩
theorem rimI_small {S : List TriM} (h : SmallV S) {ts : List Int} {t : Nat} {T : TriM} (hT : S[t]? = some T) : ∀ n, ∀ s ∈ rimI S ts T n, (-1000000 ≤ s.a ∧ s.a ≤ 1000000) ∧ (-1000000 ≤ s.b ∧ s.b ≤ 1000000)
 | 0, s, hs => by cases hs
 | n + 1, s, hs => by
  rw [rimI] at hs
  rcases List.mem_append.1 hs with hs | hs
  ·exact rimI_small h hT n s hs
  ·split at hs
   ·cases hs
   ·simp only [List.mem_singleton] at hs; subst hs; exact sideS_small h hT
theorem rimP_small {S : List TriM} (h : SmallV S) {ts : List Int} : ∀ n, ∀ s ∈ rimP S ts n, (-1000000 ≤ s.a ∧ s.a ≤ 1000000) ∧ (-1000000 ≤ s.b ∧ s.b ≤ 1000000)
 | 0, s, hs => by cases hs
 | n + 1, s, hs => by
  rw [rimP] at hs
  rcases List.mem_append.1 hs with hs | hs
  ·exact rimP_small h n s hs
  ·cases hz : ts[n]? with
   | none => rw [hz] at hs; cases hs
   | some z =>
    rw [hz] at hs
    simp only [] at hs
    unfold rimT at hs
    split at hs
    ·rename_i T hT
     exact rimI_small h hT 3 s hs
    ·cases hs
end Go.MagM
namespace Go.Proofs.YtnabdopnlinklaaGreat
open Go.RowKit Go.MagM Go.Maps
set_option maxRecDepth 100000 in
set_option maxHeartbeats 8000000 in
theorem cvRim_any {lo mb pb pc hb b : Nat} {ta : Option Addr} {tc : Nat} {P : List (Int × Int)} {S : List TriM} {v : Value} {ts : List Int} (w : World) (h : MeshR w mb pb pc ta tc P S) (hH : HoleR w lo hb mb b v ts) (hN : Nexts S) (hin : InS S ts) (hmx : S.length < 300000) (hsm : SmallV S) :
  Calls Tryz.prog 50 #[.pointer (some ⟨hb, 0, none⟩)] w fun e w' => ∃ v', e = .returned v' ∧ RowN w' w.heap.size 50 5 v' (inRowM (rimP S ts ts.length)).length (sideCells (inRowM (rimP S ts ts.length))) ∧ Below w.heap.size w w' := by
 obtain ⟨i0, hi, hz0, hz1, hz2⟩ := info_parts infoSide
 have HI := Lib.hid hi; have HZ0 := Lib.hid hz0; have HZ1 := Lib.hid hz1; have HZ2 := Lib.hid hz2
 clear hi hz0 hz1 hz2
 obtain ⟨R, hR⟩ : ∃ R, inRowM (rimP S ts ts.length) = R := ⟨_, rfl⟩
 rw [hR]
 obtain ⟨ul, hul⟩ : ∃ ul, ts.length = ul := ⟨_, rfl⟩
 obtain ⟨ao, c, rfl⟩ : ∃ ao c, v = .slice ao ul c := by
  rcases hH.row.2 with ⟨h1, h2⟩ | ⟨g, cap, cur, h1, -⟩
  ·exact ⟨_, _, by rw [h1, ← hul, h2]⟩
  ·exact ⟨_, _, by rw [← hul]; exact h1⟩
 have hle := hin.le
 rw [hul] at hle hR
 obtain ⟨len, hlen⟩ : ∃ len, S.length = len := ⟨_, rfl⟩
 rw [hlen] at hle hmx
 have hub : ul < 300000 := by omega
 have b1 := hH.box.c1
 have H := Lib.hid h; have HH := Lib.hid hH; have HN := Lib.hid hN; have HIN := Lib.hid hin; have HMX := Lib.hid hmx; have HSM := Lib.hid hsm
 have HR := Lib.hid hR; have HUL := Lib.hid hul; have HLEN := Lib.hid hlen; have HLE := Lib.hid hle
 clear h hH hN hin hmx hsm hR hul hlen hle
 go_enter Tryz.func50, Tryz.ntmps50
 go_wp2
 clear b1
 go_loopw [3, 13] (fun pv iv wr => ∃ (n : Nat) (vv : Value), n ≤ ul ∧ vv = pv ∧ iv = .int .i64 (n : Int) ∧ RowN wr w.heap.size 50 5 vv (rimP S ts n).length (sideCells (rimP S ts n)) ∧ Below w.heap.size w wr) (fun _ iv _ => ul - (intOf iv).toNat)
 case atStart => exact ⟨0, _, Nat.zero_le _, rfl, rfl, RowN.nil _ _ _ _, Below.refl _ _⟩
 case round =>
  obtain ⟨n, vv, hn, rfl, rfl, hrow, hbw⟩ := hrel
  by_cases hlt : n < ul
  ·have e1 : decide ((n : Int) < (ul : Int)) = true := decide_eq_true (by omega)
   have e2 : decide (n < ul) = true := decide_eq_true hlt
   obtain ⟨g, rfl⟩ : ∃ g, ao = some ⟨g, 0, none⟩ := by
    rcases HH.out.row.2 with ⟨h1, h2⟩ | ⟨g, cap, cur, h1, -⟩
    ·have := HUL.out; omega
    ·exact ⟨g, by injection h1⟩
   obtain ⟨z, hz⟩ : ∃ z, ts[n]? = some z := ⟨_, List.getElem?_eq_getElem (by have := HUL.out; omega)⟩
   obtain ⟨t, rfl, htl⟩ := HIN.out.is z (List.mem_of_getElem? hz)
   obtain ⟨T, hT⟩ : ∃ T, S[t]? = some T := ⟨_, List.getElem?_eq_getElem htl⟩
   have hhr := HH.out.below hbw
   have hcell : wr.cell? ⟨g, n, none⟩ = some (.int .i64 (t : Int)) := hhr.row.cells rfl n _ (by unfold intCells; rw [List.getElem?_map, hz]; rfl)
   have hr_0 := H.out.below hbw
   have hsh := hr_0.short.2
   rw [HLEN.out] at htl hsh
   obtain ⟨tb, hta, -, h9⟩ := hr_0.tris.get hT
   subst hta
   have d0 := hhr.box.c0
   have d1 := hr_0.box.c1
   rw [HLEN.out] at d1
   have c3 := h9.c3; have c4 := h9.c4; have c5 := h9.c5
   have i1 : (0 : Int) ≤ (n : Int) := by omega
   have i2 : (n : Int) < (ul : Int) := by omega
   have i3 : (0 : Int) ≤ (t : Int) := by omega
   have i4 : (t : Int) < (len : Int) := by omega
   have HROW := Lib.hid hrow; have HBW := Lib.hid hbw; have HZ := Lib.hid hz; have HT := Lib.hid hT
   have HRP := Lib.hid (rimP_on hz hT)
   clear hrow hbw hz hT hhr hr_0 h9 htl hsh
   as_aux_lemma =>
    go_wp2
    clear hcell d0 d1 c3 c4 c5
    go_loopw [3, 28] (fun pv iv w2 => ∃ (i : Nat) (vi : Value), i ≤ 3 ∧ vi = pv ∧ iv = .int .i64 (i : Int) ∧ RowN w2 w.heap.size 50 5 vi (rimP S ts n ++ rimI S ts T i).length (sideCells (rimP S ts n ++ rimI S ts T i)) ∧ Below w.heap.size w w2) (fun _ iv _ => 3 - (intOf iv).toNat)
    case atStart => exact ⟨0, _, Nat.zero_le _, rfl, rfl, by simp only [rimI, List.append_nil]; exact HROW.out, HBW.out⟩
    case round =>
     obtain ⟨i, vi, hi, rfl, rfl, hrow2, hb2⟩ := hrel
     by_cases hi3 : i < 3
     ·obtain ⟨u, hu, hul⟩ := HN.out t T HT.out i hi3
      obtain ⟨U, hU⟩ : ∃ U, S[u]? = some U := ⟨_, List.getElem?_eq_getElem hul⟩
      have ir : ∀ W : World, (Instr.index 34 (.agg #[.int .i64 T.n0, .int .i64 T.n1, .int .i64 T.n2]) (.int .i64 (i : Int))).run Tryz.prog W = .ok (.int .i64 (u : Int)) W := fun W => by
       rw [index3v_run ⟨T.n0, T.n1, T.n2, 0, 0, 0, false, false, false⟩ i hi3 W, ← hu]
       obtain rfl | rfl | rfl : i = 0 ∨ i = 1 ∨ i = 2 := by omega
       all_goals rfl
      have hur : -1000000 ≤ (u : Int) ∧ (u : Int) ≤ 1000000 := by have := HMX.out; have := HLEN.out; omega
      have e3 : decide ((i : Int) < 3) = true := decide_eq_true (by omega)
      have hhr := HH.out.below hb2
      have HHO := Lib.hid (cvHolds_any hb b ts (u : Int) wr hhr.box.c2 hhr.map hur)
      have HU := Lib.hid hU; have HUU := Lib.hid hu
      have HROW2 := Lib.hid hrow2; have HB2 := Lib.hid hb2
      clear hrow2 hb2 hhr hur hU hu hul
      as_aux_lemma =>
       go_wp2_with fail
       refine HHO.out.mono ?_
       rintro e w3 ⟨rfl, hb3⟩
       have HROW3 := Lib.hid (HROW2.out.below hb3); have HB3 := Lib.hid (HB2.out.trans (hb3.mono HB2.out.size))
       clear hb3
       by_cases hm : (u : Int) ∈ ts
       ·have e4 : decide ((u : Int) ∈ ts) = true := decide_eq_true hm
        rw [e4]
        have HRI := Lib.hid (show rimI S ts T (i + 1) = rimI S ts T i by rw [rimI, HUU.out, if_pos hm, List.append_nil])
        clear hm e4
        go_wp2
        exact ⟨⟨i + 1, _, by omega, rfl, by go_num, by rw [HRI.out]; exact HROW3.out, HB3.out⟩, by simp [intOf]; omega⟩
       ·have e4 : decide ((u : Int) ∈ ts) = false := decide_eq_false hm
        rw [e4]
        have HRI := Lib.hid (show rimI S ts T (i + 1) = rimI S ts T i ++ [sideS S T i] by rw [rimI, HUU.out, if_neg hm])
        clear hm e4
        as_aux_lemma =>
         go_wp2_with fail
         refine (cvSide_any t u i hi3 T U HUU.out w3 (H.out.below HB3.out) (HH.out.below HB3.out).box.c0 HT.out HU.out).mono ?_
         rintro e w4 ⟨rfl, hb4⟩
         rw [sideV_is S T i HUU.out HU.out]
         obtain ⟨⟨sa, sb, su, si, sf⟩, hs⟩ : ∃ s, sideS S T i = s := ⟨_, rfl⟩
         rw [hs] at HRI ⊢
         simp only [SideM.cells]
         have hrow4 := HROW3.out.below hb4
         have hb4' := HB3.out.trans (hb4.mono HB3.out.size)
         obtain ⟨w5, hw5, pz, hb5, hs5⟩ := new_box w4 _ rfl [.int .i64 sa, .int .i64 sb, .int .i64 su, .int .i64 si, .bool sf] 50
         have hrow5 := hrow4.below hb5
         have hlb : (rimP S ts n ++ rimI S ts T i).length ≤ 1000000 := by
          rw [List.length_append]
          have := rimP_le S ts n; have := rimI_le S ts T i; have := HMX.out; have := HLE.out; omega
         have hbs := hb4'.size
         obtain ⟨v1, w6, hrun, rown, hgrow, -⟩ := run_append_row (P := Tryz.prog) w5 w.heap.size 44 44 50 i0 _ 5 40 (by kernel_rfl) HI.out HZ0.out HZ1.out HZ2.out rfl (by intro u hu; simp [Value.cells] at hu; rcases hu with rfl | rfl | rfl | rfl | rfl <;> first | exact NoWord.int _ | exact NoWord.bool _) _ (rimP S ts n ++ rimI S ts T i).length _ hrow5 ⟨w4.heap.size, 0, none⟩ 1 1 [.int .i64 sa, .int .i64 sb, .int .i64 su, .int .i64 si, .bool sf] (by omega) rfl pz.news (by intro u hu; simp at hu; rcases hu with rfl | rfl | rfl | rfl | rfl <;> rfl) (by intro u hu; simp at hu; rcases hu with rfl | rfl | rfl | rfl | rfl <;> first | exact NoWord.int _ | exact NoWord.bool _) (by unfold maxLen; omega) (by omega) (by omega)
         have hb6 : Below w.heap.size w w6 := (hb4'.trans (hb5.mono hbs)).grown hgrow (by omega) (fun g' hg => (hrow5.lt g' hg).1)
         have FIN := Lib.hid (And.intro rown hb6)
         clear hb4 hrow4 hb4' pz hb5 hs5 hrow5 hlb hbs rown hgrow hb6 hs
         as_aux_lemma =>
          go_wp2_with (refine wpList_append_row rfl _ _ 44 rfl rfl rfl hrun ?_)
          refine ⟨⟨i + 1, _, by omega, rfl, by go_num, ?_, FIN.out.2⟩, by simp [intOf]; omega⟩
          rw [HRI.out, ← List.append_assoc, List.length_append, sideCells_app]
          exact FIN.out.1
     ·obtain rfl : i = 3 := by omega
      have HROW2 := Lib.hid hrow2; have HB2 := Lib.hid hb2
      clear hrow2 hb2
      go_wp2
      exact ⟨⟨n + 1, _, by omega, rfl, by go_num, by rw [HRP.out]; exact HROW2.out, HB2.out⟩, by simp [intOf]; omega⟩
  ·obtain rfl : n = ul := by omega
   have e1 : decide ((n : Int) < (n : Int)) = false := decide_eq_false (by omega)
   have HBW := Lib.hid hbw
   have HCR := Lib.hid (cvInRow_any w.heap.size vv (rimP S ts n) wr hrow (by have := rimP_le S ts n; have := HMX.out; have := HLE.out; omega) (fun s hs => rimP_small HSM.out n s hs))
   clear hrow hbw
   go_wp2_with fail
   refine HCR.out.mono ?_
   rintro e w3 ⟨v3, rfl, hrow3, hb3⟩
   rw [HR.out] at hrow3
   have FIN := Lib.hid (And.intro hrow3 (HBW.out.trans (hb3.mono HBW.out.size)))
   have HSZ := Lib.hid HBW.out.size
   clear hrow3 hb3
   go_wp2
   go_ret
   refine ⟨_, rfl, ⟨FIN.out.1.1, ?_⟩, FIN.out.2⟩
   rcases FIN.out.1.2 with h1 | ⟨g1, cap1, cur1, h1, h2, h3⟩
   ·exact .inl h1
   ·exact .inr ⟨g1, cap1, cur1, h1, by have := HSZ.out; omega, h3⟩
end Go.Proofs.YtnabdopnlinklaaGreat
