/- walk's begin. -/
import Derived.Test.YtaedaknkpfeipaaPartn
import Derived.RangeFuncNested
import Derived.RangeFuncBound
import Derived.RangeFuncCalls
import Derived.RangeFuncLeaves
import Derived.Test.YtaedaknkpfeipaaPartk
import Derived.Test.YtaedaknkpfeipaaParte
namespace Go.MagM
open Go.RowKit
/-- Where a walk begins. -/
def beginM (S : List TriM) (from' : Int) : Int := if realM S from' = true then from' else match realsK S S.length with
  | x :: _ => (x.1 : Int)
  | [] => -1
/-- One triangle has come, and its number lies in the box. -/
def BegX {S : List TriM} (rb : Nat) (ty : TypeId) (pre : List (RA S)) (W : World) : Prop := ∃ x : RA S, pre = [x] ∧ Boxed W rb ty (.int .i64 (x.1.1 : Int))
theorem begX_own {S : List TriM} (rb : Nat) (ty : TypeId) (B : Nat) : OwnFrom B (fun (pre : List (RA S)) W => BegX rb ty pre W) := by
  intro s A B' row hs hg hr
  obtain ⟨x, hx, hb⟩ := hs
  exact ⟨x, hx, (Own.from (boxed_own rb ty (fun _ : List (RA S) => Value.int .i64 (x.1.1 : Int))) B) s A B' row hb hg hr⟩
end Go.MagM
namespace Go.Proofs.Ytaedaknkpfeipaa
open Go.RowKit Go.MagM Go.Shelf
attribute [local go_sem] Oper.semAt_some
set_option maxRecDepth 100000 in
set_option maxHeartbeats 4000000 in
theorem begin_yes {mb pb pc : Nat} {ta : Option Addr} {tc : Nat} {P : List (Int × Int)} {S : List TriM} (t : Int) (w : World) (h : MeshR w mb pb pc ta tc P S) (hr : realM S t = true) :
    Calls Try.prog 53 #[.pointer (some ⟨mb, 0, none⟩), .int .i64 t] w fun e w' => e = .returned (.int .i64 (beginM S t)) ∧ Below w.heap.size w w' := by
  obtain ⟨w1, hw1, pp, hb1, hs1⟩ := new_box w _ rfl [.int .i64 0] 3
  have hre := Real_any t w1 (h.below hb1)
  rw [hr] at hre
  have hq : beginM S t = t := by unfold beginM; rw [if_pos hr]
  rw [hq]
  have HRE := Lib.hid hre; have PP := Lib.hid pp; have HB1 := Lib.hid hb1
  clear h hr hre hq pp hb1 hs1
  go_enter Try.func53, Try.ntmps53
  go_wp2_with fail
  refine HRE.out.mono ?_
  rintro e w2 ⟨rfl, hd⟩
  have pq := PP.out.below hd.below
  have o0 := pq.c 0 _ rfl; have g0 := pq.f 0 _ rfl
  obtain ⟨wz, hwz⟩ : ∃ wz, setAll w2 w.heap.size 0 [.int .i64 t] = wz := ⟨_, rfl⟩
  have pz : Box wz w.heap.size [.int .i64 t] := by rw [← hwz]; exact pq.setAll [.int .i64 t] rfl
  have hbz : Below w.heap.size w wz := by rw [← hwz]; exact below_setAll (HB1.out.trans (hd.below.mono HB1.out.size)) (Nat.le_refl _) _
  have z0 := pz.c 0 _ rfl
  have Z0 := Lib.hid z0; have HWZ := Lib.hid hwz; have HBZ := Lib.hid hbz
  clear pq pz hbz hwz z0 hd
  go_wp2
  have z0 := Z0.out
  have hwz := HWZ.out
  simp only [setAll] at hwz
  rw [hwz]
  (try simp only [Exit.inBlock, Exit.then])
  refine bodyPost_ret (v := .int .i64 t) ?_ rfl ?_
  · simp [results, Try.results53, go_sem, z0]
  · exact ⟨rfl, HBZ.out⟩
set_option maxRecDepth 100000 in
set_option maxHeartbeats 8000000 in
theorem begin_no {mb pb pc : Nat} {ta : Option Addr} {tc : Nat} {P : List (Int × Int)} {S : List TriM} (t : Int) (w : World) (h : MeshR w mb pb pc ta tc P S) (hin : MeshIn (fun b => b < w.heap.size) mb pb ta) (hr : realM S t = false) :
    Calls Try.prog 53 #[.pointer (some ⟨mb, 0, none⟩), .int .i64 t] w fun e w' => e = .returned (.int .i64 (beginM S t)) ∧ Below w.heap.size w w' := by
  obtain ⟨w1, hw1, pp, hb1, hs1⟩ := new_box w _ rfl [.int .i64 0] 3
  have bx1 : Boxed w1 w.heap.size 3 (.int .i64 0) := by rw [← hw1]; exact Boxed.new w _ _
  have hm1 := h.below hb1
  have hre := Real_any t w1 hm1
  rw [hr] at hre
  obtain ⟨q, hq⟩ : ∃ q, beginM S t = q := ⟨_, rfl⟩
  rw [hq]
  have hqn : ¬ realM S t = true := by rw [hr]; decide
  unfold beginM at hq
  rw [if_neg hqn] at hq
  have HQ := Lib.hid hq
  have HRE := Lib.hid hre; have HB1 := Lib.hid hb1; have BX1 := Lib.hid bx1; have HM1 := Lib.hid hm1; have HIN := Lib.hid hin
  clear h hin hr hre hq hqn pp hb1 hs1 bx1 hm1
  refine (callsIn_wide (n := 20)).1 (callsIn_of_wp_marks (F := Fence.wide) (n := 20) Try.func53 rfl trivial ?_ rfl)
  simp only [Try.ntmps53, List.size_toArray, List.length_cons, List.length_nil, Nat.reduceAdd, Nat.reduceSub, Array.replicate_succ, Array.replicate_zero, List.push_toArray, List.append_toArray, List.nil_append, List.cons_append]
  rw [wpIn_wide]
  go_wp2_with fail
  refine HRE.out.mono ?_
  rintro e w2 ⟨rfl, hd⟩
  have hm2 := HM1.out.below hd.below
  have hb2 := HB1.out.trans (hd.below.mono HB1.out.size)
  have bx2 : Boxed w2 w.heap.size 3 (.int .i64 0) := by obtain ⟨k, rfl⟩ := hd; exact BX1.out
  have HAL := Lib.hid (All_any (some ⟨mb, 0, none⟩) w2)
  have HM2 := Lib.hid hm2; have HB2 := Lib.hid hb2; have BX2 := Lib.hid bx2
  clear hd hm2 hb2 bx2
  go_wp2_with fail
  refine HAL.out.mono ?_
  rintro e w3 ⟨rfl, hw3⟩
  go_wp2
  have hsz3 : w3.heap.size = w2.heap.size + 1 := by rw [← hw3]; simp
  have hn2 : w.heap.size ≤ w2.heap.size := HB2.out.size
  have hb23 : Below w2.heap.size w2 w3 := by rw [← hw3]; exact (Below.refl _ _).alloc (Nat.le_refl _) _
  have hm3 := HM2.out.below hb23
  have hB3 := HB2.out.trans (hb23.mono HB2.out.size)
  have bx3 : Boxed w3 w.heap.size 3 (.int .i64 0) := by rw [← hw3]; exact BX2.out.alloc _
  have bm3 : Boxed w3 w2.heap.size 28 (.pointer (some ⟨mb, 0, none⟩)) := by rw [← hw3]; exact Boxed.new w2 _ _
  have hin3 : MeshIn (fun b => b < w3.heap.size) mb pb ta := ⟨by have := HIN.out.m; omega, by have := HIN.out.p; omega, fun b hb => by have := HIN.out.t b hb; omega⟩
  have hlt3 : ∀ b, (fun b => b < w3.heap.size) b → b < w3.heap.size := fun _ h => h
  have hbm := bm3.cell
  have hbl : w2.heap.size < w3.heap.size := by omega
  rw [← wpIn_wide (n := 20)]
  refine wpIn_rangeFunc_ownG rfl (by omega) (gf := 35) (lb := #[.pointer (some ⟨w2.heap.size, 0, none⟩)]) rfl trivial (enters_of Try.func35 (by kernel_rfl) rfl)
    (all_stops 19 (by omega) w2.heap.size (fun b => b < w3.heap.size) w3 hlt3 hm3 hin3 hbm hbl) (fun h k => KeepB.trans h k) ?kb (Below.refl _ _) (fun _ => rfl)
    (fun pre W => (pre = [] ∧ Boxed W w.heap.size 3 (.int .i64 0)) ∧ Below w.heap.size w W)
    (fun c pre W => (c = .ret ∧ BegX w.heap.size 3 pre W) ∧ Below w.heap.size w W)
    (OwnFrom.and (fun s A B row hs hg hr => ⟨hs.1, (Own.from (boxed_own w.heap.size 3 (fun _ : List (RA S) => Value.int .i64 0)) w3.heap.size) s A B row hs.2 hg hr⟩) (ownFrom_below (Nat.le_refl _) (by omega)))
    (fun c => OwnFrom.and (fun s A B row hs hg hr => ⟨hs.1, begX_own _ _ _ s A B row hs.2 hg hr⟩) (ownFrom_below (Nat.le_refl _) (by omega)))
    ⟨⟨rfl, bx3⟩, hB3⟩
    (fun x => { tmps := #[.pointer (some ⟨mb, 0, none⟩), .int .i64 t, undef, undef, .pointer (some ⟨w.heap.size, 0, none⟩), .int .i64 (x.1.1 : Int), .pointer (some ⟨mb, 0, none⟩), .int .i64 t, .bool false, undef, .pointer (some ⟨mb, 0, none⟩), .func (.func 35) #[] #[.pointer (some ⟨w2.heap.size, 0, none⟩)], .int .i64 (x.1.1 : Int), triV x.1.2, undef], defers := [] }) ?assign ?body ?done ?stop
  case kb =>
    intro W l o o' hl h _ _ b hb
    exact World.putObj_heap_other (fun e => by omega)
  case assign =>
    intro l x W K hK
    dsimp only [encA]
    gi_wp2
    exact hK
  case body =>
    rintro l pre x W ⟨⟨rfl, hbx⟩, hB⟩ _
    have hc := hbx.cell; have hf := hbx.frozen
    gi_wp2
    exact ⟨(KeepsOthers.setCell _ _ _).from _, ⟨rfl, ⟨x, rfl, hbx.set _⟩⟩, hB.setCell (p := ⟨w.heap.size, 0, none⟩) (Nat.le_refl _) _⟩
  case done =>
    rintro D xs W hD hS ⟨⟨rfl, hbx⟩, hB⟩ hK
    have hrn : realsK S S.length = [] := hS.symm
    have hc := hbx.cell; have hf := hbx.frozen
    have hq : q = -1 := by have := HQ.out; rw [hrn] at this; exact this.symm
    subst hq
    gi_wp2
    go_wp2
    have hK' := (KeepsOthers.setCell W ⟨w.heap.size, 0, none⟩ (.int .i64 (-1))).same D _ hK rfl
    have hb' := hB.setCell (p := ⟨w.heap.size, 0, none⟩) (Nat.le_refl _) (.int .i64 (-1))
    have hbx' := hbx.set (.int .i64 (-1))
    refine ⟨by simp, .inl ⟨_, _, rfl, run_takeDeferred hK', ?_⟩⟩
    have hc5 := cell_kept hbx'.cell (grownBy_putObj' _ D (.deferred none)) (fun r e => by cases e; exact ⟨_, hK', rfl⟩)
    refine ⟨.int .i64 (-1), ?_, rfl, hb'.trans (belowK_b (w := w) (Nat.le_refl _) _ D _ _ (by omega) hK' rfl rfl)⟩
    simp [results, Try.results53, go_sem, hc5]
  case stop =>
    rintro D c pre W hD hS ⟨⟨rfl, ⟨x, rfl, hbx⟩⟩, hB⟩ hK
    have hq : q = (x.1.1 : Int) := by
      have h1 := HQ.out
      obtain ⟨rest, hr⟩ := hS
      rw [← hr] at h1
      exact h1.symm
    subst hq
    gi_wp2
    refine ⟨by simp, .inl ⟨_, _, rfl, run_takeDeferred hK, ?_⟩⟩
    have hc5 := cell_kept hbx.cell (grownBy_putObj' _ D (.deferred none)) (fun r e => by cases e; exact ⟨_, hK, rfl⟩)
    refine ⟨.int .i64 (x.1.1 : Int), ?_, rfl, hB.trans (belowK_b (w := w) (Nat.le_refl _) _ D _ _ (by omega) hK rfl rfl)⟩
    simp [results, Try.results53, go_sem, hc5]
theorem begin_any {mb pb pc : Nat} {ta : Option Addr} {tc : Nat} {P : List (Int × Int)} {S : List TriM} (t : Int) (w : World) (h : MeshR w mb pb pc ta tc P S) (hin : MeshIn (fun b => b < w.heap.size) mb pb ta) :
    Calls Try.prog 53 #[.pointer (some ⟨mb, 0, none⟩), .int .i64 t] w fun e w' => e = .returned (.int .i64 (beginM S t)) ∧ Below w.heap.size w w' := by
  cases hr : realM S t with
  | true => exact begin_yes t w h hr
  | false => exact begin_no t w h hin hr
end Go.Proofs.Ytaedaknkpfeipaa
/- walk's readers: side, Holds. -/
namespace Go.MagM
open Go.RowKit
/-- On which side of edge i of T the point p lies. -/
def sideT (P : List (Int × Int)) (T : TriM) (i : Nat) (p : Int × Int) : Int :=
  (crs (ptA P (T.v ((i + 1) % 3)).toNat).1 (ptA P (T.v ((i + 1) % 3)).toNat).2 (ptA P (T.v ((i + 2) % 3)).toNat).1 (ptA P (T.v ((i + 2) % 3)).toNat).2 p.1 p.2).sign
/-- The number of a point that is there. -/
def InV (P : List (Int × Int)) (v : Int) : Prop := 0 ≤ v ∧ v < (P.length : Int)
def holdsT (P : List (Int × Int)) (T : TriM) (p : Int × Int) : Bool := decide (0 ≤ sideT P T 0 p) && decide (0 ≤ sideT P T 1 p) && decide (0 ≤ sideT P T 2 p)
theorem box3_at {w : World} {g : Nat} {T : TriM} (h : Box w g [.int .i64 T.v0, .int .i64 T.v1, .int .i64 T.v2]) {k : Nat} (hk : k < 3) : w.cell? ⟨g, k, none⟩ = some (.int .i64 (T.v k)) := by
  obtain rfl | rfl | rfl : k = 0 ∨ k = 1 ∨ k = 2 := by omega
  · exact h.c 0 _ rfl
  · exact h.c 1 _ rfl
  · exact h.c 2 _ rfl
theorem InV.nat {P : List (Int × Int)} {v : Int} (h : InV P v) : ∃ a : Nat, v = (a : Int) ∧ a < P.length ∧ P[a]? = some ((ptA P v.toNat).1, (ptA P v.toNat).2) := by
  obtain ⟨h0, h1⟩ := h
  refine ⟨v.toNat, by omega, by omega, ptA_at (by omega)⟩
theorem mod3_one {i : Nat} (hi : i < 3) : (IntKind.i64.wrap ((i : Int) + 1)).tmod 3 = (((i + 1) % 3 : Nat) : Int) := by
  obtain rfl | rfl | rfl : i = 0 ∨ i = 1 ∨ i = 2 := by omega
  all_goals decide
theorem mod3_two {i : Nat} (hi : i < 3) : (IntKind.i64.wrap ((i : Int) + 2)).tmod 3 = (((i + 2) % 3 : Nat) : Int) := by
  obtain rfl | rfl | rfl : i = 0 ∨ i = 1 ∨ i = 2 := by omega
  all_goals decide
end Go.MagM
namespace Go.Proofs.Ytaedaknkpfeipaa
open Go.RowKit Go.MagM
set_option maxRecDepth 100000 in
set_option maxHeartbeats 4000000 in
theorem wside_any {mb pb pc : Nat} {ta : Option Addr} {tc : Nat} {P : List (Int × Int)} {S : List TriM} (t i : Nat) (T : TriM) (p : Int × Int) (s : Int) (w : World) (h : MeshR w mb pb pc ta tc P S) (hP : InPs P) (hp : InP p.1 ∧ InP p.2) (hT : S[t]? = some T) (hi : i < 3)
    (h1 : InV P (T.v ((i + 1) % 3))) (h2 : InV P (T.v ((i + 2) % 3))) (hs : sideT P T i p = s) :
    Calls Try.prog 54 #[.pointer (some ⟨mb, 0, none⟩), .int .i64 (t : Int), .int .i64 (i : Int), .agg #[.int .i64 p.1, .int .i64 p.2]] w fun e w' => e = .returned (.int .i64 s) ∧ Below w.heap.size w w' := by
  obtain ⟨a, ea, la, ga⟩ := h1.nat
  obtain ⟨b, eb, lb, gb⟩ := h2.nat
  obtain ⟨tb, hta, -, h9⟩ := h.tris.get hT
  subst hta
  have hlt := (List.getElem?_eq_some_iff.1 hT).1
  have hsh := h.short
  obtain ⟨len, hlen⟩ : ∃ len, S.length = len := ⟨_, rfl⟩
  obtain ⟨pn, hpn⟩ : ∃ pn, P.length = pn := ⟨_, rfl⟩
  have m1 := mod3_one hi
  have m2 := mod3_two hi
  have hpa : InP (ptA P (T.v ((i + 1) % 3)).toNat).1 ∧ InP (ptA P (T.v ((i + 1) % 3)).toNat).2 := hP _ (List.mem_of_getElem? ga)
  have hpb : InP (ptA P (T.v ((i + 2) % 3)).toNat).1 ∧ InP (ptA P (T.v ((i + 2) % 3)).toNat).2 := hP _ (List.mem_of_getElem? gb)
  obtain ⟨k1, hk1⟩ : ∃ k1, (i + 1) % 3 = k1 := ⟨_, rfl⟩
  obtain ⟨k2, hk2⟩ : ∃ k2, (i + 2) % 3 = k2 := ⟨_, rfl⟩
  unfold sideT at hs
  rw [hk1] at m1 ea ga hpa hs; rw [hk2] at m2 eb gb hpb hs
  have hk13 : k1 < 3 := by omega
  have hk23 : k2 < 3 := by omega
  obtain ⟨⟨a0, a1⟩, hpta⟩ : ∃ q, ptA P (T.v k1).toNat = q := ⟨_, rfl⟩
  obtain ⟨⟨b0, b1⟩, hptb⟩ : ∃ q, ptA P (T.v k2).toNat = q := ⟨_, rfl⟩
  rw [hpta] at ga hpa hs; rw [hptb] at gb hpb hs
  simp only [] at ga gb hpa hpb hs
  obtain ⟨p0, p1⟩ := p
  simp only [] at hp hs
  have co := fun w => Orient_is a0 a1 b0 b1 p0 p1 hpa.1 hpa.2 hpb.1 hpb.2 hp.1 hp.2 hs w
  obtain ⟨w1, hw1, pp, hb1, hs1⟩ := new_box w _ rfl [.int .i64 p0, .int .i64 p1] 26
  obtain ⟨vb, hvb⟩ : ∃ vb, w1.heap.size = vb := ⟨_, rfl⟩
  obtain ⟨w2, hw2, pv, hb2, hs2⟩ := new_box w1 _ rfl [.int .i64 T.v0, .int .i64 T.v1, .int .i64 T.v2] 23
  rw [hvb] at pv
  have hB2 : Below w.heap.size w w2 := hb1.trans (hb2.mono hb1.size)
  have hb12 : Below w.heap.size w w1 := hb1
  have e1 := (h.below hb12).box.c 1 _ rfl
  rw [hlen] at e1
  have h9' := h9.below hb12
  obtain ⟨c0, c1, c2, -, -, -, -, -, -⟩ := h9'
  have H := Lib.hid h; have CO := Lib.hid co; have HB2 := Lib.hid hB2; have PP := Lib.hid (pp.below hb2); have PV := Lib.hid pv
  have GA := Lib.hid ga; have GB := Lib.hid gb; have HPN := Lib.hid hpn; have EA := Lib.hid ea; have EB := Lib.hid eb
  have i1 : (0 : Int) ≤ (t : Int) := by omega
  have i2 : (t : Int) < (len : Int) := by omega
  have i3 : (0 : Int) ≤ (a : Int) := by omega
  have i4 : (a : Int) < (pn : Int) := by omega
  have i5 : (0 : Int) ≤ (b : Int) := by omega
  have i6 : (b : Int) < (pn : Int) := by omega
  have i7 : (0 : Int) ≤ (k1 : Int) := by omega
  have i8 : (k1 : Int) < 3 := by omega
  have i9 : (0 : Int) ≤ (k2 : Int) := by omega
  have i10 : (k2 : Int) < 3 := by omega
  obtain ⟨v0, v1, v2, n0, n1, n2, f0, f1, f2⟩ := T
  simp only [] at c0 c1 c2
  clear h hP hp hT h1 h2 hs ea la ga eb lb gb h9 hlt hpa hpb hpta hptb co pp hb1 hs1 hb2 hs2 pv hB2 hb12 hsh hk1 hk2 hlen hpn
  go_enter Try.func54, Try.ntmps54
  go_wp2
  clear c0 c1 c2 e1
  have hB_0 : Below w.heap.size w w2.drew := HB2.out.drew'
  have cc : ∀ w', Below w2.drew.heap.size w2.drew w' → w'.cell? ⟨mb, 0, none⟩ = some (.slice (some ⟨pb, 0, none⟩) pn pc) ∧ w'.cell? ⟨vb, k1, none⟩ = some (.int .i64 (a : Int)) ∧ w'.cell? ⟨vb, k2, none⟩ = some (.int .i64 (b : Int)) ∧
      w'.cell? ⟨pb, a * 2, none⟩ = some (.int .i64 a0) ∧ w'.cell? ⟨pb, a * 2 + 1, none⟩ = some (.int .i64 a1) ∧ w'.cell? ⟨pb, b * 2, none⟩ = some (.int .i64 b0) ∧ w'.cell? ⟨pb, b * 2 + 1, none⟩ = some (.int .i64 b1) ∧
      w'.cell? ⟨w.heap.size, 0, none⟩ = some (.int .i64 p0) ∧ w'.cell? ⟨w.heap.size, 1, none⟩ = some (.int .i64 p1) := by
    intro w' hb
    have hm := ((H.out.below HB2.out).drew).below hb
    have hv := PV.out.drew.below hb
    have hp := PP.out.drew.below hb
    have e0 := hm.box.c 0 _ rfl
    rw [HPN.out] at e0
    have bv1 := box3_at (T := ⟨v0, v1, v2, n0, n1, n2, f0, f1, f2⟩) hv hk13
    have bv2 := box3_at (T := ⟨v0, v1, v2, n0, n1, n2, f0, f1, f2⟩) hv hk23
    rw [EA.out] at bv1; rw [EB.out] at bv2
    exact ⟨e0, bv1, bv2, (hm.pt GA.out).1, (hm.pt GA.out).2, (hm.pt GB.out).1, (hm.pt GB.out).2, hp.c 0 _ rfl, hp.c 1 _ rfl⟩
  have CC := Lib.hid cc; clear cc
  have hD_0 := Below.refl w2.drew.heap.size w2.drew
  go_region_held3 (fun w' => w'.cell? ⟨mb, 0, none⟩ = some (.slice (some ⟨pb, 0, none⟩) pn pc) ∧ w'.cell? ⟨vb, k1, none⟩ = some (.int .i64 (a : Int)) ∧ w'.cell? ⟨vb, k2, none⟩ = some (.int .i64 (b : Int)) ∧ w'.cell? ⟨pb, a * 2, none⟩ = some (.int .i64 a0) ∧ w'.cell? ⟨pb, a * 2 + 1, none⟩ = some (.int .i64 a1) ∧ w'.cell? ⟨pb, b * 2, none⟩ = some (.int .i64 b0) ∧ w'.cell? ⟨pb, b * 2 + 1, none⟩ = some (.int .i64 b1) ∧ w'.cell? ⟨w.heap.size, 0, none⟩ = some (.int .i64 p0) ∧ w'.cell? ⟨w.heap.size, 1, none⟩ = some (.int .i64 p1))
    (first | with_reducible exact CC.out _ hD_0 | with_reducible exact CC.out _ hD_1 | fail)
    (first | (go_at_call 12; (with_reducible refine (CO.out _).mono ?_); rintro e w4 ⟨rfl, hb4⟩; have hB_1 := hB_0.trans (hb4.mono hB_0.size); have hD_1 := hD_0.trans (hb4.mono hD_0.size)))
  go_wp2
  go_ret
  exact ⟨rfl, hB_1⟩
end Go.Proofs.Ytaedaknkpfeipaa
/- walk's Holds. -/
namespace Go.MagM
open Go.RowKit
theorem holdsT_all {P : List (Int × Int)} {T : TriM} {p : Int × Int} (h : ∀ j, j < 3 → 0 ≤ sideT P T j p) : holdsT P T p = true := by
  unfold holdsT
  rw [decide_eq_true (h 0 (by omega)), decide_eq_true (h 1 (by omega)), decide_eq_true (h 2 (by omega))]; rfl
theorem holdsT_not {P : List (Int × Int)} {T : TriM} {p : Int × Int} {j : Nat} (hj : j < 3) (h : sideT P T j p < 0) : holdsT P T p = false := by
  unfold holdsT
  have h' : decide (0 ≤ sideT P T j p) = false := decide_eq_false (by omega)
  obtain rfl | rfl | rfl : j = 0 ∨ j = 1 ∨ j = 2 := by omega
  all_goals rw [h']; simp
/-- A real triangle's points are there. -/
def RealIn (P : List (Int × Int)) (T : TriM) : Prop := realT T = true → ∀ i, i < 3 → InV P (T.v i)
end Go.MagM
namespace Go.Proofs.Ytaedaknkpfeipaa
open Go.RowKit Go.MagM
set_option maxRecDepth 100000 in
set_option maxHeartbeats 4000000 in
theorem Holds_any {mb pb pc : Nat} {ta : Option Addr} {tc : Nat} {P : List (Int × Int)} {S : List TriM} (t : Nat) (T : TriM) (p : Int × Int) (w : World) (h : MeshR w mb pb pc ta tc P S) (hP : InPs P) (hp : InP p.1 ∧ InP p.2) (hT : S[t]? = some T) (hre : RealIn P T) :
    Calls Try.prog 28 #[.pointer (some ⟨mb, 0, none⟩), .int .i64 (t : Int), .agg #[.int .i64 p.1, .int .i64 p.2]] w fun e w' => e = .returned (.bool (realT T && holdsT P T p)) ∧ Below w.heap.size w w' := by
  obtain ⟨w1, hw1, pp, hb1, hs1⟩ := new_box w _ rfl [.int .i64 p.1, .int .i64 p.2] 26
  have hr := Real_any (t : Int) w1 (h.below hb1)
  have hrm : realM S (t : Int) = realT T := by unfold realM; rw [getT_nat, hT]
  rw [hrm] at hr
  unfold RealIn at hre
  obtain ⟨r, hrr⟩ : ∃ r, realT T = r := ⟨_, rfl⟩
  rw [hrr] at hr hre ⊢
  have HR := Lib.hid hr; have HB1 := Lib.hid hb1; have PP := Lib.hid pp
  cases r with
  | false =>
    clear h hP hp hT hre hrm hrr hr hb1 pp hs1
    go_enter Try.func28, Try.ntmps28
    go_wp2_with fail
    refine HR.out.mono ?_
    rintro e w2 ⟨rfl, hd⟩
    have HB2 := Lib.hid (HB1.out.trans (hd.below.mono HB1.out.size))
    clear hd
    go_wp2
    go_ret
    exact ⟨rfl, HB2.out⟩
  | true =>
    have hv := hre rfl
    have hso : ∀ (i : Nat) (wr : World), i < 3 → Below w.heap.size w wr → Calls Try.prog 54 #[.pointer (some ⟨mb, 0, none⟩), .int .i64 (t : Int), .int .i64 (i : Int), .agg #[.int .i64 p.1, .int .i64 p.2]] wr fun e w' => e = .returned (.int .i64 (sideT P T i p)) ∧ Below wr.heap.size wr w' :=
      fun i wr hi hb => wside_any t i T p _ wr (h.below hb) hP hp hT hi (hv _ (Nat.mod_lt _ (by omega))) (hv _ (Nat.mod_lt _ (by omega))) rfl
    obtain ⟨b, hb⟩ : ∃ b, holdsT P T p = b := ⟨_, rfl⟩
    rw [Bool.true_and, hb]
    have HB := Lib.hid hb; have HSO := Lib.hid hso
    clear h hP hp hT hre hrm hrr hr hb1 pp hs1 hb hv hso
    go_enter Try.func28, Try.ntmps28
    go_wp2_with fail
    refine HR.out.mono ?_
    rintro e w2 ⟨rfl, hd⟩
    have HB2 := Lib.hid (HB1.out.trans (hd.below.mono HB1.out.size))
    have PP2 := Lib.hid (PP.out.below hd.below)
    clear hd
    go_wp2
    go_loopw [7, 12] (fun _ iv wr => ∃ i : Nat, i ≤ 3 ∧ iv = .int .i64 (i : Int) ∧ Below w2.heap.size w2 wr ∧ ∀ j, j < i → 0 ≤ sideT P T j p) (fun _ iv _ => 3 - (intOf iv).toNat)
    case atStart => exact ⟨0, by omega, rfl, Below.refl _ _, fun j hj => absurd hj (by omega)⟩
    case round =>
      obtain ⟨i, hi, rfl, hbw, hall⟩ := hrel
      have pw := PP2.out.below hbw
      have c0 := pw.c 0 _ rfl; have c1 := pw.c 1 _ rfl
      have HBW := Lib.hid (HB2.out.trans (hbw.mono HB2.out.size)); have HBW2 := Lib.hid hbw
      have HALL := Lib.hid hall
      clear pw hbw hall
      by_cases hlt : i < 3
      · have hyd : decide ((i : Int) < 3) = true := decide_eq_true (by omega)
        have hs := HSO.out i wr hlt HBW.out
        obtain ⟨s, hse⟩ : ∃ s, sideT P T i p = s := ⟨_, rfl⟩
        rw [hse] at hs
        have HS := Lib.hid hs; have HSE := Lib.hid hse
        clear hs hse
        by_cases hneg : s < 0
        · have hyn : decide (s < 0) = true := decide_eq_true hneg
          go_wp2_with fail
          refine HS.out.mono ?_
          rintro e w3 ⟨rfl, hb3⟩
          have HB3 := Lib.hid (HBW.out.trans (hb3.mono HBW.out.size))
          clear hb3 c0 c1
          go_wp2
          go_ret
          exact ⟨by rw [← HB.out, holdsT_not hlt (by rw [HSE.out]; exact hneg)]; rfl, HB3.out⟩
        · have hyn : decide (s < 0) = false := decide_eq_false hneg
          go_wp2_with fail
          refine HS.out.mono ?_
          rintro e w3 ⟨rfl, hb3⟩
          have HB3 := Lib.hid (HBW2.out.trans (hb3.mono HBW2.out.size))
          clear hb3 c0 c1
          go_wp2
          go_roundw
          case rel =>
            refine ⟨i + 1, by omega, by go_num, HB3.out, fun j hj => ?_⟩
            rcases Nat.lt_or_ge j i with g | g
            · exact HALL.out j g
            · obtain rfl : j = i := by omega
              rw [HSE.out]; omega
          case measure => simp [intOf]; omega
      · obtain rfl : i = 3 := by omega
        clear c0 c1
        go_wp2
        go_ret
        exact ⟨by rw [← HB.out, holdsT_all HALL.out]; rfl, HBW.out⟩
end Go.Proofs.Ytaedaknkpfeipaa
/- walk's faces. -/
namespace Go.MagM
open Go.RowKit
/-- A ghost, whose edge of the border has p strictly beyond it. -/
def facesT (P : List (Int × Int)) (T : TriM) (p : Int × Int) : Bool := decide (0 ≤ placeT T (-1)) && decide (0 < sideT P T (placeT T (-1)).toNat p)
/-- A ghost's other points are there. -/
def FaceIn (P : List (Int × Int)) (T : TriM) : Prop := ∀ k : Nat, placeT T (-1) = (k : Int) → InV P (T.v ((k + 1) % 3)) ∧ InV P (T.v ((k + 2) % 3))
end Go.MagM
namespace Go.Proofs.Ytaedaknkpfeipaa
open Go.RowKit Go.MagM
set_option maxRecDepth 100000 in
set_option maxHeartbeats 4000000 in
theorem faces_any {mb pb pc : Nat} {ta : Option Addr} {tc : Nat} {P : List (Int × Int)} {S : List TriM} (t : Nat) (T : TriM) (p : Int × Int) (w : World) (h : MeshR w mb pb pc ta tc P S) (hP : InPs P) (hp : InP p.1 ∧ InP p.2) (hT : S[t]? = some T) (hfa : FaceIn P T) :
    Calls Try.prog 59 #[.pointer (some ⟨mb, 0, none⟩), .int .i64 (t : Int), .agg #[.int .i64 p.1, .int .i64 p.2]] w fun e w' => e = .returned (.bool (facesT P T p)) ∧ Below w.heap.size w w' := by
  obtain ⟨w1, hw1, pp, hb1, hs1⟩ := new_box w _ rfl [.int .i64 p.1, .int .i64 p.2] 26
  have h1 := h.below hb1
  obtain ⟨b0, b1, -, -⟩ := h1.box.open2
  have hsh := h.short.2
  obtain ⟨len, hlen⟩ : ∃ len, S.length = len := ⟨_, rfl⟩
  have hkl := (List.getElem?_eq_some_iff.1 hT).1
  rw [hlen] at b1 hsh hkl
  have i1 : (0 : Int) ≤ (t : Int) := by omega
  have i2 : (t : Int) < (len : Int) := by omega
  obtain ⟨tb, rfl, hbl, ht⟩ := h1.tris.get hT
  have hi := index_any tb (t * 9) 3 3 [T.v0, T.v1, T.v2] (-1) w1 rfl (by omega) (fun j u hj => by
    have h0 := ht.c0; have h1 := ht.c1; have h2 := ht.c2
    match j, hj with
    | 0, hj => simp at hj; subst hj; exact h0
    | 1, hj => simp at hj; subst hj; exact h1
    | 2, hj => simp at hj; subst hj; exact h2
    | _ + 3, hj => simp at hj)
  rw [place_idx] at hi
  have hcs := placeT_cases T (-1)
  unfold FaceIn at hfa
  obtain ⟨f, hf⟩ : ∃ f, facesT P T p = f := ⟨_, rfl⟩
  rw [hf]
  unfold facesT at hf
  obtain ⟨g, hg⟩ : ∃ g, placeT T (-1) = g := ⟨_, rfl⟩
  rw [hg] at hi hcs hfa hf
  have c0 := pp.c 0 _ rfl; have c1 := pp.c 1 _ rfl
  have HI := Lib.hid hi; have HB1 := Lib.hid hb1
  by_cases hneg : g < 0
  · have hy : decide (0 ≤ g) = false := decide_eq_false (by omega)
    rw [hy, Bool.false_and] at hf
    clear h h1 hP hp hT hfa hi hcs hb1 pp hs1 ht hlen hg hsh hkl hbl
    subst hf
    go_enter Try.func59, Try.ntmps59
    go_wp2_with fail
    refine HI.out.mono ?_
    rintro e w2 ⟨rfl, rfl⟩
    go_wp2
    go_ret
    exact ⟨rfl, HB1.out⟩
  · obtain ⟨k, rfl⟩ : ∃ k : Nat, g = (k : Int) := ⟨g.toNat, by omega⟩
    have hk : k < 3 := by omega
    have hy : decide ((0 : Int) ≤ (k : Int)) = true := decide_eq_true (by omega)
    rw [hy, Bool.true_and, Int.toNat_natCast] at hf
    obtain ⟨v1, v2⟩ := hfa k rfl
    have hs := wside_any t k T p _ w1 h1 hP hp hT hk v1 v2 rfl
    obtain ⟨s, hse⟩ : ∃ s, sideT P T k p = s := ⟨_, rfl⟩
    rw [hse] at hs hf
    have HS := Lib.hid hs
    clear h h1 hP hp hT hfa hi hcs hb1 pp hs1 ht hlen hg hsh hkl hbl hs hse v1 v2
    subst hf
    go_enter Try.func59, Try.ntmps59
    go_wp2_with fail
    refine HI.out.mono ?_
    rintro e w2 ⟨rfl, rfl⟩
    go_wp2_with fail
    refine HS.out.mono ?_
    rintro e w3 ⟨rfl, hb3⟩
    have HB3 := Lib.hid (HB1.out.trans (hb3.mono HB1.out.size))
    clear hb3 c0 c1 b0 b1
    go_wp2
    go_ret
    exact ⟨rfl, HB3.out⟩
end Go.Proofs.Ytaedaknkpfeipaa
/- walk's within. -/
namespace Go.MagM
open Go.RowKit
/-- The first of three. -/
def firstK (f : Nat → Bool) : Option Nat := if f 0 = true then some 0 else if f 1 = true then some 1 else if f 2 = true then some 2 else none
theorem firstK_at {f : Nat → Bool} {k : Nat} (hk : k < 3) (hf : f k = true) (hn : ∀ j, j < k → f j = false) : firstK f = some k := by
  unfold firstK
  obtain rfl | rfl | rfl : k = 0 ∨ k = 1 ∨ k = 2 := by omega
  · rw [if_pos hf]
  · rw [hn 0 (by omega), if_neg (by decide), if_pos hf]
  · rw [hn 0 (by omega), hn 1 (by omega), if_neg (by decide), if_neg (by decide), if_pos hf]
theorem firstK_none {f : Nat → Bool} (hn : ∀ j, j < 3 → f j = false) : firstK f = none := by
  unfold firstK
  rw [hn 0 (by omega), hn 1 (by omega), hn 2 (by omega)]; rfl
def withinT (P : List (Int × Int)) (T : TriM) (t : Nat) (p : Int × Int) : Int × Int × Int × Int :=
  match firstK (fun k => decide (ptA P (T.v k).toNat = p)) with
  | some k => (2, (t : Int), T.v k, 0)
  | none => match firstK (fun k => decide (sideT P T k p = 0)) with
    | some k => (1, (t : Int), min (T.v ((k + 1) % 3)) (T.v ((k + 2) % 3)), max (T.v ((k + 1) % 3)) (T.v ((k + 2) % 3)))
    | none => (0, (t : Int), 0, 0)
def placeV (x : Int × Int × Int × Int) : Value := .agg #[.int .i64 x.1, .int .i64 x.2.1, .int .i64 x.2.2.1, .int .i64 x.2.2.2]
theorem withinT_pt {P : List (Int × Int)} {T : TriM} {t : Nat} {p : Int × Int} {k : Nat} (hk : k < 3) (he : ptA P (T.v k).toNat = p) (hn : ∀ j, j < k → ptA P (T.v j).toNat ≠ p) : withinT P T t p = (2, (t : Int), T.v k, 0) := by
  unfold withinT
  rw [firstK_at hk (decide_eq_true he) (fun j hj => decide_eq_false (hn j hj))]
theorem withinT_edge {P : List (Int × Int)} {T : TriM} {t : Nat} {p : Int × Int} {k : Nat} (hk : k < 3) (h0 : ∀ j, j < 3 → ptA P (T.v j).toNat ≠ p) (he : sideT P T k p = 0) (hn : ∀ j, j < k → sideT P T j p ≠ 0) : withinT P T t p = (1, (t : Int), min (T.v ((k + 1) % 3)) (T.v ((k + 2) % 3)), max (T.v ((k + 1) % 3)) (T.v ((k + 2) % 3))) := by
  unfold withinT
  rw [firstK_none (fun j hj => decide_eq_false (h0 j hj)), firstK_at hk (decide_eq_true he) (fun j hj => decide_eq_false (hn j hj))]
theorem withinT_in {P : List (Int × Int)} {T : TriM} {t : Nat} {p : Int × Int} (h0 : ∀ j, j < 3 → ptA P (T.v j).toNat ≠ p) (hn : ∀ j, j < 3 → sideT P T j p ≠ 0) : withinT P T t p = (0, (t : Int), 0, 0) := by
  unfold withinT
  rw [firstK_none (fun j hj => decide_eq_false (h0 j hj)), firstK_none (fun j hj => decide_eq_false (hn j hj))]
theorem run_equalIn_pair {P : Program} (w : World) (d : Nat) (t e : TypeId) (k : IntKind) (f0 f1 : Field) (ht : P.underlying t = some (.struct #[f0, f1])) (hp : P.stoodInHeld t = false) (he : P.underlying e = some (.int k)) (ha : ∀ w, (isAgg e).run P w = .ok false w)
    (n0 : f0.name ≠ "_") (n1 : f1.name ≠ "_") (t0 : f0.type = e) (t1 : f1.type = e) (o0 : f0.offset = 0) (o1 : f1.offset = 1) (a b x y : Int) :
    (Op.equalIn (d + 2) t (.agg #[.int k a, .int k b]) (.agg #[.int k x, .int k y])).run P w = .ok (decide (a = x ∧ b = y)) w := by
  have hi : ∀ (a b : Int) (w : World), (Op.equalIn (d + 1) e (.int k a) (.int k b)).run P w = .ok (a == b) w := fun a b w => run_equalIn_int w d e k k a b he
  have hp0 : ∀ (u v : Value) (w : World), (part e #[u, v] 0).run P w = .ok u w := fun u v w => by simp [part, ha, Sem.run_bind, Result.andThen]
  have hp1 : ∀ (u v : Value) (w : World), (part e #[u, v] 1).run P w = .ok v w := fun u v w => by simp [part, ha, Sem.run_bind, Result.andThen]
  have hf : P.fieldsOf t = #[f0, f1] := by unfold Program.fieldsOf; rw [ht]
  rw [run_equalIn_struct w (d + 1) t _ _ (by rw [hf]; exact ht) hp, hf]
  simp only [Op.eqFields, t0, t1, o0, o1]
  rw [if_pos n0, if_pos n1]
  by_cases h1 : a = x <;> by_cases h2 : b = y <;> simp [h1, h2, hp0, hp1, hi, Sem.run_bind, Result.andThen, Sem.run_pure]
end Go.MagM
namespace Go.Proofs.Ytaedaknkpfeipaa
open Go.RowKit Go.MagM
theorem eqPt_run (w : World) (a b x y : Int) : Sem.run Try.prog (binOp BinOp.eql 26 (Value.agg #[.int .i64 a, .int .i64 b]) (Value.agg #[.int .i64 x, .int .i64 y])) w = Result.ok (Value.bool (decide (a = x ∧ b = y))) w := by
  rw [run_eql_struct, show (10000 : Nat) = 9998 + 2 from rfl, run_equalIn_pair w 9998 26 3 .i64 _ _ Try.underlying26 (by kernel_rfl) Try.underlying3 (fun w => by kernel_rfl) (by decide) (by decide) rfl rfl rfl rfl]
  rfl
theorem index3v_run (T : TriM) (i : Nat) (hi : i < 3) (w : World) : (Instr.index 23 (.agg #[.int .i64 T.v0, .int .i64 T.v1, .int .i64 T.v2]) (.int .i64 (i : Int))).run Try.prog w = .ok (.int .i64 (T.v i)) w :=
  index3_run ⟨0, 0, 0, T.v0, T.v1, T.v2, false, false, false⟩ i hi w |>.trans (by obtain rfl | rfl | rfl : i = 0 ∨ i = 1 ∨ i = 2 := by omega
                                                                                  all_goals rfl)
set_option maxRecDepth 100000 in
set_option maxHeartbeats 4000000 in
theorem wwithin_any {mb pb pc : Nat} {ta : Option Addr} {tc : Nat} {P : List (Int × Int)} {S : List TriM} (t : Nat) (T : TriM) (p : Int × Int) (w : World) (h : MeshR w mb pb pc ta tc P S) (hP : InPs P) (hp : InP p.1 ∧ InP p.2) (hT : S[t]? = some T) (hv : ∀ i, i < 3 → InV P (T.v i)) :
    Calls Try.prog 56 #[.pointer (some ⟨mb, 0, none⟩), .int .i64 (t : Int), .agg #[.int .i64 p.1, .int .i64 p.2]] w fun e w' => e = .returned (placeV (withinT P T t p)) ∧ Below w.heap.size w w' := by
  obtain ⟨w1, hw1, pp, hb1, hs1⟩ := new_box w _ rfl [.int .i64 p.1, .int .i64 p.2] 26
  obtain ⟨lb, hlb⟩ : ∃ lb, w1.heap.size = lb := ⟨_, rfl⟩
  obtain ⟨w2, hw2, pl, hb2, hs2⟩ := new_box w1 _ rfl [.int .i64 0, .int .i64 0, .int .i64 0, .int .i64 0] 69
  rw [hlb] at pl
  obtain ⟨vb, hvb⟩ : ∃ vb, w2.heap.size = vb := ⟨_, rfl⟩
  obtain ⟨w3, hw3, pv, hb3, hs3⟩ := new_box w2 _ rfl [.int .i64 T.v0, .int .i64 T.v1, .int .i64 T.v2] 23
  rw [hvb] at pv
  have hB2 : Below w.heap.size w w2 := hb1.trans (hb2.mono hb1.size)
  have hB3 : Below w.heap.size w w3 := hB2.trans (hb3.mono hB2.size)
  have pp3 := (pp.below hb2).below hb3
  have pl3 := pl.below hb3
  have hlw : w.heap.size ≤ lb := by rw [← hlb]; exact hb1.size
  have hm2 := h.below hB2
  have hm3 := h.below hB3
  obtain ⟨len, hlen⟩ : ∃ len, S.length = len := ⟨_, rfl⟩
  have hkl := (List.getElem?_eq_some_iff.1 hT).1
  have e1 := hm2.box.c 1 _ rfl
  have hsh := h.short
  rw [hlen] at e1 hkl hsh
  obtain ⟨tb, rfl, hbl, ht⟩ := hm2.tris.get hT
  obtain ⟨c0, c1, c2, -, -, -, -, -, -⟩ := ht
  have i1 : (0 : Int) ≤ (t : Int) := by omega
  have i2 : (t : Int) < (len : Int) := by omega
  have hso : ∀ (i : Nat) (wr : World), i < 3 → Below w.heap.size w wr → Calls Try.prog 54 #[.pointer (some ⟨mb, 0, none⟩), .int .i64 (t : Int), .int .i64 (i : Int), .agg #[.int .i64 p.1, .int .i64 p.2]] wr fun e w' => e = .returned (.int .i64 (sideT P T i p)) ∧ Below wr.heap.size wr w' :=
    fun i wr hi hb => wside_any t i T p _ wr (h.below hb) hP hp hT hi (hv _ (Nat.mod_lt _ (by omega))) (hv _ (Nat.mod_lt _ (by omega))) rfl
  have hpts : ∀ (i : Nat) (wr : World), i < 3 → Below w3.heap.size w3 wr → ∃ a : Nat, T.v i = (a : Int) ∧ a < P.length ∧ wr.cell? ⟨mb, 0, none⟩ = some (.slice (some ⟨pb, 0, none⟩) P.length pc) ∧ wr.cell? ⟨pb, a * 2, none⟩ = some (.int .i64 (ptA P a).1) ∧ wr.cell? ⟨pb, a * 2 + 1, none⟩ = some (.int .i64 (ptA P a).2) ∧ wr.cell? ⟨w.heap.size, 0, none⟩ = some (.int .i64 p.1) ∧ wr.cell? ⟨w.heap.size, 1, none⟩ = some (.int .i64 p.2) := by
    intro i wr hi hb
    obtain ⟨a, ea, la, ga⟩ := (hv i hi).nat
    rw [ea, Int.toNat_natCast] at ga
    have hm := hm3.below hb
    exact ⟨a, ea, la, hm.box.c 0 _ rfl, (hm.pt ga).1, (hm.pt ga).2, (pp3.below hb).c 0 _ rfl, (pp3.below hb).c 1 _ rfl⟩
  obtain ⟨q, hq⟩ : ∃ q, withinT P T t p = q := ⟨_, rfl⟩
  rw [hq]
  have HQ := Lib.hid hq; have HSO := Lib.hid hso; have HPTS := Lib.hid hpts; have HB3 := Lib.hid hB3; have PL := Lib.hid pl3; have PV := Lib.hid pv; have PP := Lib.hid pp3; have HLW := Lib.hid hlw
  have HVV := Lib.hid hv
  have q0 := pv.c 0 _ rfl; have q1 := pv.c 1 _ rfl; have q2 := pv.c 2 _ rfl
  clear h hP hp hT hq hso hpts hB3 pl3 pv pp3 hlw hb1 hb2 hb3 hs1 hs2 hs3 pp pl hB2 hm2 hm3 hlen hkl hbl hv
  go_enter Try.func56, Try.ntmps56
  go_wp2
  clear c0 c1 c2 e1 q0 q1 q2
  go_loopw [9, 22] (fun _ iv wr => ∃ i : Nat, i ≤ 3 ∧ iv = .int .i64 (i : Int) ∧ Below w3.heap.size w3 wr ∧ ∀ j, j < i → ptA P (T.v j).toNat ≠ p) (fun _ iv _ => 3 - (intOf iv).toNat)
  case atStart => exact ⟨0, by omega, rfl, Below.refl _ _, fun j hj => absurd hj (by omega)⟩
  case round =>
    obtain ⟨i, hi, rfl, hbw, hall⟩ := hrel
    have HBW := Lib.hid hbw; have HALL := Lib.hid hall
    clear hbw hall
    by_cases hlt : i < 3
    · have hyd : decide ((i : Int) < 3) = true := decide_eq_true (by omega)
      obtain ⟨a, ea, la, d0, d1, d2, d3, d4⟩ := HPTS.out i wr hlt HBW.out
      have ir := fun w => index3v_run T i hlt w
      rw [ea] at ir
      obtain ⟨pn, hpn⟩ : ∃ pn, P.length = pn := ⟨_, rfl⟩
      rw [hpn] at d0 la
      have i3 : (0 : Int) ≤ (a : Int) := by omega
      have i4 : (a : Int) < (pn : Int) := by omega
      obtain ⟨⟨a0, a1⟩, hpa⟩ : ∃ q, ptA P a = q := ⟨_, rfl⟩
      rw [hpa] at d1 d2
      have HEA := Lib.hid ea; have HPA := Lib.hid hpa
      clear ea hpa hpn
      by_cases hqq : a0 = p.1 ∧ a1 = p.2
      · have heq : ∀ w : World, Sem.run Try.prog (binOp BinOp.eql 26 (Value.agg #[.int .i64 a0, .int .i64 a1]) (Value.agg #[.int .i64 p.1, .int .i64 p.2])) w = Result.ok (Value.bool true) w := fun w => by rw [eqPt_run, decide_eq_true hqq]
        have HQQ := Lib.hid hqq
        clear hqq
        go_wp2
        go_quiet (fail)
        clear d0 d1 d2 d3 d4 ir heq
        have hbq := HBW.out.trans ((Drew.below ⟨nq, rfl⟩ : Below wr.heap.size wr (wr.drewN nq)).mono HBW.out.size)
        have plq := PL.out.below hbq
        obtain ⟨wz, hwz⟩ : ∃ wz, setAll (wr.drewN nq) lb 0 [.int .i64 2, .int .i64 (t : Int), .int .i64 (a : Int), .int .i64 0] = wz := ⟨_, rfl⟩
        have pz : Box wz lb [.int .i64 2, .int .i64 (t : Int), .int .i64 (a : Int), .int .i64 0] := by rw [← hwz]; exact plq.setAll [.int .i64 2, .int .i64 (t : Int), .int .i64 (a : Int), .int .i64 0] rfl
        have hbz : Below w.heap.size w wz := by rw [← hwz]; exact below_setAll (HB3.out.trans (hbq.mono HB3.out.size)) HLW.out _
        have z0 := pz.c 0 _ rfl; have z1 := pz.c 1 _ rfl; have z2 := pz.c 2 _ rfl; have z3 := pz.c 3 _ rfl
        have o0 := plq.c 0 _ rfl; have o1 := plq.c 1 _ rfl; have o2 := plq.c 2 _ rfl; have o3 := plq.c 3 _ rfl
        have g0 := plq.f 0 _ rfl; have g1 := plq.f 1 _ rfl; have g2 := plq.f 2 _ rfl; have g3 := plq.f 3 _ rfl
        have HWZ := Lib.hid hwz; have HBZ := Lib.hid hbz; have HZ0 := Lib.hid z0; have HZ1 := Lib.hid z1; have HZ2 := Lib.hid z2; have HZ3 := Lib.hid z3
        clear hbq plq hwz pz hbz z0 z1 z2 z3
        go_wp2
        clear o0 o1 o2 o3 g0 g1 g2 g3
        have z0 := HZ0.out; have z1 := HZ1.out; have z2 := HZ2.out; have z3 := HZ3.out
        have hwz := HWZ.out
        simp only [setAll] at hwz
        rw [hwz]
        (try simp only [Exit.inBlock, Exit.then])
        refine bodyPost_ret (v := .agg #[.int .i64 2, .int .i64 (t : Int), .int .i64 (a : Int), .int .i64 0]) ?_ rfl ?_
        · simp [results, Try.results56, go_sem, z0, z1, z2, z3]
        · exact ⟨by rw [← HQ.out, withinT_pt hlt (by rw [HEA.out, Int.toNat_natCast, HPA.out, HQQ.out.1, HQQ.out.2]) HALL.out, HEA.out]; rfl, HBZ.out⟩
      · have heq : ∀ w : World, Sem.run Try.prog (binOp BinOp.eql 26 (Value.agg #[.int .i64 a0, .int .i64 a1]) (Value.agg #[.int .i64 p.1, .int .i64 p.2])) w = Result.ok (Value.bool false) w := fun w => by rw [eqPt_run, decide_eq_false hqq]
        have HQQ := Lib.hid hqq
        clear hqq
        go_wp2
        go_quiet (fail)
        go_wp2
        go_roundw
        case rel =>
          refine ⟨i + 1, by omega, by go_num, HBW.out.trans ((Drew.below ⟨nq, rfl⟩ : Below wr.heap.size wr (wr.drewN nq)).mono HBW.out.size), fun j hj => ?_⟩
          rcases Nat.lt_or_ge j i with g | g
          · exact HALL.out j g
          · obtain rfl : j = i := by omega
            rw [HEA.out, Int.toNat_natCast, HPA.out]
            exact fun e => HQQ.out ⟨congrArg Prod.fst e, congrArg Prod.snd e⟩
        case measure => simp [intOf]; omega
    · have hi3 : i = 3 := by omega
      have hall3 : ∀ j, j < 3 → ptA P (T.v j).toNat ≠ p := fun j hj => HALL.out j (by omega)
      have HALL3 := Lib.hid hall3
      clear hall3
      have hyo : decide ((i : Int) < 3) = false := decide_eq_false (by omega)
      clear hi3 HALL
      obtain ⟨io, rfl⟩ : ∃ io, io = i := ⟨_, rfl⟩
      obtain ⟨wo, rfl⟩ : ∃ wo, wo = wr := ⟨_, rfl⟩
      go_wp2
      go_loopw [10, 11, 12, 38] (fun _ _ _ iv wr => ∃ i : Nat, i ≤ 3 ∧ iv = .int .i64 (i : Int) ∧ Below w3.heap.size w3 wr ∧ ∀ j, j < i → sideT P T j p ≠ 0) (fun _ _ _ iv _ => 3 - (intOf iv).toNat)
      case atStart => exact ⟨0, by omega, rfl, HBW.out, fun j hj => absurd hj (by omega)⟩
      case round =>
        obtain ⟨i, hi, rfl, hbw, hsd⟩ := hrel
        have HBR := Lib.hid hbw; have HSD := Lib.hid hsd
        have hbr := HB3.out.trans (hbw.mono HB3.out.size)
        have HBR0 := Lib.hid hbr
        clear hbw hsd hbr
        by_cases hlt : i < 3
        · have hyd : decide ((i : Int) < 3) = true := decide_eq_true (by omega)
          have c0 := (PP.out.below HBR.out).c 0 _ rfl; have c1 := (PP.out.below HBR.out).c 1 _ rfl
          have hs := HSO.out i wr hlt HBR0.out
          obtain ⟨s, hse⟩ : ∃ s, sideT P T i p = s := ⟨_, rfl⟩
          rw [hse] at hs
          have HS := Lib.hid hs; have HSE := Lib.hid hse
          clear hs hse
          by_cases hz : s = 0
          · have hyz : (s == 0) = true := by simpa using hz
            have HZ := Lib.hid hz
            have m1 := mod3_one hlt
            have m2 := mod3_two hlt
            obtain ⟨k1, hk1⟩ : ∃ k1, (i + 1) % 3 = k1 := ⟨_, rfl⟩
            obtain ⟨k2, hk2⟩ : ∃ k2, (i + 2) % 3 = k2 := ⟨_, rfl⟩
            have hk13 : k1 < 3 := by omega
            have hk23 : k2 < 3 := by omega
            rw [hk1] at m1; rw [hk2] at m2
            have i7 : (0 : Int) ≤ (k1 : Int) := by omega
            have i8 : (k1 : Int) < 3 := by omega
            have i9 : (0 : Int) ≤ (k2 : Int) := by omega
            have i10 : (k2 : Int) < 3 := by omega
            have HK1 := Lib.hid hk1; have HK2 := Lib.hid hk2
            clear hz hk1 hk2
            go_wp2_with fail
            refine HS.out.mono ?_
            rintro e w4 ⟨rfl, hb4⟩
            have hbq4 := HBR.out.trans (hb4.mono HBR.out.size)
            have pv4 := PV.out.below hbq4
            have y1 := box3_at pv4 hk13; have y2 := box3_at pv4 hk23
            have HB4 := Lib.hid hbq4
            obtain ⟨x1, hx1⟩ : ∃ x1, T.v k1 = x1 := ⟨_, rfl⟩
            obtain ⟨x2, hx2⟩ : ∃ x2, T.v k2 = x2 := ⟨_, rfl⟩
            rw [hx1] at y1; rw [hx2] at y2
            have HX1 := Lib.hid hx1; have HX2 := Lib.hid hx2
            clear hb4 hbq4 pv4 c0 c1 hx1 hx2
            go_wp2
            go_quiet (fail)
            clear y1 y2 m1 m2
            rcases Int.lt_trichotomy x2 x1 with hle | hle | hle
            · have hbq := HB4.out.trans ((Drew.below ⟨nq, rfl⟩ : Below w4.heap.size w4 (w4.drewN nq)).mono HB4.out.size)
              have plq := PL.out.below hbq
              obtain ⟨wz, hwz⟩ : ∃ wz, setAll (w4.drewN nq) lb 0 [.int .i64 1, .int .i64 (t : Int), .int .i64 x2, .int .i64 x1] = wz := ⟨_, rfl⟩
              have pz : Box wz lb [.int .i64 1, .int .i64 (t : Int), .int .i64 x2, .int .i64 x1] := by rw [← hwz]; exact plq.setAll [.int .i64 1, .int .i64 (t : Int), .int .i64 x2, .int .i64 x1] rfl
              have hbz : Below w.heap.size w wz := by rw [← hwz]; exact below_setAll (HB3.out.trans (hbq.mono HB3.out.size)) HLW.out _
              have z0 := pz.c 0 _ rfl; have z1 := pz.c 1 _ rfl; have z2 := pz.c 2 _ rfl; have z3 := pz.c 3 _ rfl
              have o0 := plq.c 0 _ rfl; have o1 := plq.c 1 _ rfl; have o2 := plq.c 2 _ rfl; have o3 := plq.c 3 _ rfl
              have g0 := plq.f 0 _ rfl; have g1 := plq.f 1 _ rfl; have g2 := plq.f 2 _ rfl; have g3 := plq.f 3 _ rfl
              have HWZ := Lib.hid hwz; have HBZ := Lib.hid hbz; have HZ0 := Lib.hid z0; have HZ1 := Lib.hid z1; have HZ2 := Lib.hid z2; have HZ3 := Lib.hid z3
              clear hbq plq hwz pz hbz z0 z1 z2 z3
              go_wp2
              clear o0 o1 o2 o3 g0 g1 g2 g3
              have z0 := HZ0.out; have z1 := HZ1.out; have z2 := HZ2.out; have z3 := HZ3.out
              have hwz := HWZ.out
              simp only [setAll] at hwz
              rw [hwz]
              (try simp only [Exit.inBlock, Exit.then])
              refine bodyPost_ret (v := .agg #[.int .i64 1, .int .i64 (t : Int), .int .i64 x2, .int .i64 x1]) ?_ rfl ?_
              · simp [results, Try.results56, go_sem, z0, z1, z2, z3]
              · exact ⟨by rw [← HQ.out, withinT_edge hlt HALL3.out (by rw [HSE.out, HZ.out]) HSD.out, HK1.out, HK2.out, HX1.out, HX2.out, Int.min_eq_right (by omega), Int.max_eq_left (by omega)]; rfl, HBZ.out⟩
            · subst hle
              have hbq := HB4.out.trans ((Drew.below ⟨nq, rfl⟩ : Below w4.heap.size w4 (w4.drewN nq)).mono HB4.out.size)
              have plq := PL.out.below hbq
              obtain ⟨wz, hwz⟩ : ∃ wz, setAll (w4.drewN nq) lb 0 [.int .i64 1, .int .i64 (t : Int), .int .i64 x2, .int .i64 x2] = wz := ⟨_, rfl⟩
              have pz : Box wz lb [.int .i64 1, .int .i64 (t : Int), .int .i64 x2, .int .i64 x2] := by rw [← hwz]; exact plq.setAll [.int .i64 1, .int .i64 (t : Int), .int .i64 x2, .int .i64 x2] rfl
              have hbz : Below w.heap.size w wz := by rw [← hwz]; exact below_setAll (HB3.out.trans (hbq.mono HB3.out.size)) HLW.out _
              have z0 := pz.c 0 _ rfl; have z1 := pz.c 1 _ rfl; have z2 := pz.c 2 _ rfl; have z3 := pz.c 3 _ rfl
              have o0 := plq.c 0 _ rfl; have o1 := plq.c 1 _ rfl; have o2 := plq.c 2 _ rfl; have o3 := plq.c 3 _ rfl
              have g0 := plq.f 0 _ rfl; have g1 := plq.f 1 _ rfl; have g2 := plq.f 2 _ rfl; have g3 := plq.f 3 _ rfl
              have HWZ := Lib.hid hwz; have HBZ := Lib.hid hbz; have HZ0 := Lib.hid z0; have HZ1 := Lib.hid z1; have HZ2 := Lib.hid z2; have HZ3 := Lib.hid z3
              clear hbq plq hwz pz hbz z0 z1 z2 z3
              go_wp2
              clear o0 o1 o2 o3 g0 g1 g2 g3
              have z0 := HZ0.out; have z1 := HZ1.out; have z2 := HZ2.out; have z3 := HZ3.out
              have hwz := HWZ.out
              simp only [setAll] at hwz
              rw [hwz]
              (try simp only [Exit.inBlock, Exit.then])
              refine bodyPost_ret (v := .agg #[.int .i64 1, .int .i64 (t : Int), .int .i64 x2, .int .i64 x2]) ?_ rfl ?_
              · simp [results, Try.results56, go_sem, z0, z1, z2, z3]
              · exact ⟨by rw [← HQ.out, withinT_edge hlt HALL3.out (by rw [HSE.out, HZ.out]) HSD.out, HK1.out, HK2.out, HX1.out, HX2.out, Int.min_eq_left (by omega), Int.max_eq_right (by omega)]; rfl, HBZ.out⟩
            · have hnl : ¬ x2 < x1 := by omega
              have hbq := HB4.out.trans ((Drew.below ⟨nq, rfl⟩ : Below w4.heap.size w4 (w4.drewN nq)).mono HB4.out.size)
              have plq := PL.out.below hbq
              obtain ⟨wz, hwz⟩ : ∃ wz, setAll (w4.drewN nq) lb 0 [.int .i64 1, .int .i64 (t : Int), .int .i64 x1, .int .i64 x2] = wz := ⟨_, rfl⟩
              have pz : Box wz lb [.int .i64 1, .int .i64 (t : Int), .int .i64 x1, .int .i64 x2] := by rw [← hwz]; exact plq.setAll [.int .i64 1, .int .i64 (t : Int), .int .i64 x1, .int .i64 x2] rfl
              have hbz : Below w.heap.size w wz := by rw [← hwz]; exact below_setAll (HB3.out.trans (hbq.mono HB3.out.size)) HLW.out _
              have z0 := pz.c 0 _ rfl; have z1 := pz.c 1 _ rfl; have z2 := pz.c 2 _ rfl; have z3 := pz.c 3 _ rfl
              have o0 := plq.c 0 _ rfl; have o1 := plq.c 1 _ rfl; have o2 := plq.c 2 _ rfl; have o3 := plq.c 3 _ rfl
              have g0 := plq.f 0 _ rfl; have g1 := plq.f 1 _ rfl; have g2 := plq.f 2 _ rfl; have g3 := plq.f 3 _ rfl
              have HWZ := Lib.hid hwz; have HBZ := Lib.hid hbz; have HZ0 := Lib.hid z0; have HZ1 := Lib.hid z1; have HZ2 := Lib.hid z2; have HZ3 := Lib.hid z3
              clear hbq plq hwz pz hbz z0 z1 z2 z3
              go_wp2
              clear o0 o1 o2 o3 g0 g1 g2 g3
              have z0 := HZ0.out; have z1 := HZ1.out; have z2 := HZ2.out; have z3 := HZ3.out
              have hwz := HWZ.out
              simp only [setAll] at hwz
              rw [hwz]
              (try simp only [Exit.inBlock, Exit.then])
              refine bodyPost_ret (v := .agg #[.int .i64 1, .int .i64 (t : Int), .int .i64 x1, .int .i64 x2]) ?_ rfl ?_
              · simp [results, Try.results56, go_sem, z0, z1, z2, z3]
              · exact ⟨by rw [← HQ.out, withinT_edge hlt HALL3.out (by rw [HSE.out, HZ.out]) HSD.out, HK1.out, HK2.out, HX1.out, HX2.out, Int.min_eq_left (by omega), Int.max_eq_right (by omega)]; rfl, HBZ.out⟩
          · have hyz : (s == 0) = false := by simpa using hz
            have HZ := Lib.hid hz
            clear hz
            go_wp2_with fail
            refine HS.out.mono ?_
            rintro e w4 ⟨rfl, hb4⟩
            have HB4 := Lib.hid (HBR.out.trans (hb4.mono HBR.out.size))
            clear hb4 c0 c1
            go_wp2
            go_roundw
            case rel =>
              refine ⟨i + 1, by omega, by go_num, HB4.out, fun j hj => ?_⟩
              rcases Nat.lt_or_ge j i with g | g
              · exact HSD.out j g
              · obtain rfl : j = i := by omega
                rw [HSE.out]; exact HZ.out
            case measure => simp [intOf]; omega
        · obtain rfl : i = 3 := by omega
          have hbq := HBR.out
          have plq := PL.out.below hbq
          obtain ⟨wz, hwz⟩ : ∃ wz, setAll wr lb 0 [.int .i64 0, .int .i64 (t : Int), .int .i64 0, .int .i64 0] = wz := ⟨_, rfl⟩
          have pz : Box wz lb [.int .i64 0, .int .i64 (t : Int), .int .i64 0, .int .i64 0] := by rw [← hwz]; exact plq.setAll [.int .i64 0, .int .i64 (t : Int), .int .i64 0, .int .i64 0] rfl
          have hbz : Below w.heap.size w wz := by rw [← hwz]; exact below_setAll (HB3.out.trans (hbq.mono HB3.out.size)) HLW.out _
          have z0 := pz.c 0 _ rfl; have z1 := pz.c 1 _ rfl; have z2 := pz.c 2 _ rfl; have z3 := pz.c 3 _ rfl
          have o0 := plq.c 0 _ rfl; have o1 := plq.c 1 _ rfl; have o2 := plq.c 2 _ rfl; have o3 := plq.c 3 _ rfl
          have g0 := plq.f 0 _ rfl; have g1 := plq.f 1 _ rfl; have g2 := plq.f 2 _ rfl; have g3 := plq.f 3 _ rfl
          have HWZ := Lib.hid hwz; have HBZ := Lib.hid hbz; have HZ0 := Lib.hid z0; have HZ1 := Lib.hid z1; have HZ2 := Lib.hid z2; have HZ3 := Lib.hid z3
          clear hbq plq hwz pz hbz z0 z1 z2 z3
          go_wp2
          clear o0 o1 o2 o3 g0 g1 g2 g3
          have z0 := HZ0.out; have z1 := HZ1.out; have z2 := HZ2.out; have z3 := HZ3.out
          have hwz := HWZ.out
          simp only [setAll] at hwz
          rw [hwz]
          (try simp only [Exit.inBlock, Exit.then])
          refine bodyPost_ret (v := .agg #[.int .i64 0, .int .i64 (t : Int), .int .i64 0, .int .i64 0]) ?_ rfl ?_
          · simp [results, Try.results56, go_sem, z0, z1, z2, z3]
          · exact ⟨by rw [← HQ.out, withinT_in HALL3.out HSD.out]; rfl, HBZ.out⟩
end Go.Proofs.Ytaedaknkpfeipaa
/- walk's way: side. -/
namespace Go.MagM
open Go.RowKit
/-- On which side of the line from a to p the point v lies. -/
def orS (P : List (Int × Int)) (a : Int) (p : Int × Int) (v : Int) : Int := (crs (ptA P a.toNat).1 (ptA P a.toNat).2 p.1 p.2 (ptA P v.toNat).1 (ptA P v.toNat).2).sign
/-- On which side of the way the point v lies. -/
def sideW (P : List (Int × Int)) (T : TriM) (p : Int × Int) (v : Int) : Int :=
  match firstK (fun k => !decide (orS P (T.v k) p v = 0)) with
  | some k => orS P (T.v k) p v
  | none => 0
theorem sideW_at {P : List (Int × Int)} {T : TriM} {p : Int × Int} {v : Int} {k : Nat} (hk : k < 3) (h : orS P (T.v k) p v ≠ 0) (hn : ∀ j, j < k → orS P (T.v j) p v = 0) : sideW P T p v = orS P (T.v k) p v := by
  unfold sideW
  rw [firstK_at hk (by rw [decide_eq_false h]; rfl) (fun j hj => by rw [decide_eq_true (hn j hj)]; rfl)]
theorem sideW_zero {P : List (Int × Int)} {T : TriM} {p : Int × Int} {v : Int} (hn : ∀ j, j < 3 → orS P (T.v j) p v = 0) : sideW P T p v = 0 := by
  unfold sideW
  rw [firstK_none (fun j hj => by rw [decide_eq_true (hn j hj)]; rfl)]
end Go.MagM
namespace Go.Proofs.Ytaedaknkpfeipaa
open Go.RowKit Go.MagM
set_option maxRecDepth 100000 in
set_option maxHeartbeats 8000000 in
theorem wayside_any {mb pb pc : Nat} {ta : Option Addr} {tc : Nat} {P : List (Int × Int)} {S : List TriM} (s : Nat) (T : TriM) (p : Int × Int) (v : Int) (w : World) (h : MeshR w mb pb pc ta tc P S) (hP : InPs P) (hp : InP p.1 ∧ InP p.2) (hT : S[s]? = some T) (hv0 : ∀ i, i < 3 → InV P (T.v i)) (hv : InV P v) :
    Calls Try.prog 74 #[.agg #[.pointer (some ⟨mb, 0, none⟩), .int .i64 (s : Int), .int .i64 p.1, .int .i64 p.2], .int .i64 v] w fun e w' => e = .returned (.int .i64 (sideW P T p v)) ∧ Below w.heap.size w w' := by
  obtain ⟨w1, hw1, pp, hb1, hs1⟩ := new_box w _ rfl [.pointer (some ⟨mb, 0, none⟩), .int .i64 (s : Int), .int .i64 p.1, .int .i64 p.2] 100
  have hm1 := h.below hb1
  obtain ⟨len, hlen⟩ : ∃ len, S.length = len := ⟨_, rfl⟩
  have hkl := (List.getElem?_eq_some_iff.1 hT).1
  have e1 := hm1.box.c 1 _ rfl
  have hsh := h.short
  rw [hlen] at e1 hkl hsh
  obtain ⟨tb, rfl, hbl, ht⟩ := hm1.tris.get hT
  obtain ⟨c0, c1, c2, -, -, -, -, -, -⟩ := ht
  have d0 := pp.c 0 _ rfl; have d1 := pp.c 1 _ rfl
  have i1 : (0 : Int) ≤ (s : Int) := by omega
  have i2 : (s : Int) < (len : Int) := by omega
  obtain ⟨vn, rfl, lv, gv⟩ := hv.nat
  obtain ⟨pn, hpn⟩ : ∃ pn, P.length = pn := ⟨_, rfl⟩
  rw [hpn] at lv
  obtain ⟨⟨b0, b1⟩, hptb⟩ : ∃ q, ptA P vn = q := ⟨_, rfl⟩
  rw [Int.toNat_natCast, hptb] at gv
  have hpb : InP b0 ∧ InP b1 := hP _ (List.mem_of_getElem? gv)
  have hcells : ∀ (i : Nat) (wr : World), i < 3 → Below w1.heap.size w1 wr → (wr.cell? ⟨mb, 0, none⟩ = some (.slice (some ⟨pb, 0, none⟩) pn pc) ∧ wr.cell? ⟨pb, (T.v i).toNat * 2, none⟩ = some (.int .i64 (ptA P (T.v i).toNat).1) ∧ wr.cell? ⟨pb, (T.v i).toNat * 2 + 1, none⟩ = some (.int .i64 (ptA P (T.v i).toNat).2) ∧ wr.cell? ⟨pb, vn * 2, none⟩ = some (.int .i64 b0) ∧ wr.cell? ⟨pb, vn * 2 + 1, none⟩ = some (.int .i64 b1) ∧
      wr.cell? ⟨w.heap.size, 0, none⟩ = some (.pointer (some ⟨mb, 0, none⟩)) ∧ wr.cell? ⟨w.heap.size, 2, none⟩ = some (.int .i64 p.1) ∧ wr.cell? ⟨w.heap.size, 3, none⟩ = some (.int .i64 p.2)) := by
    intro i wr hi hb
    obtain ⟨a, ea, la, ga⟩ := (hv0 i hi).nat
    have hm := hm1.below hb
    have e0 := hm.box.c 0 _ rfl
    rw [hpn] at e0
    have hpw := pp.below hb
    have e : (T.v i).toNat = a := by rw [ea, Int.toNat_natCast]
    rw [e] at ga ⊢
    exact ⟨e0, (hm.pt ga).1, (hm.pt ga).2, (hm.pt gv).1, (hm.pt gv).2, hpw.c 0 _ rfl, hpw.c 2 _ rfl, hpw.c 3 _ rfl⟩
  have hfacts : ∀ i, i < 3 → ∃ (a : Nat) (a0 a1 : Int), T.v i = (a : Int) ∧ a < pn ∧ ptA P a = (a0, a1) ∧ orS P (T.v i) p (vn : Int) = (crs a0 a1 p.1 p.2 b0 b1).sign ∧ InP a0 ∧ InP a1 := by
    intro i hi
    obtain ⟨a, ea, la, ga⟩ := (hv0 i hi).nat
    rw [ea, Int.toNat_natCast] at ga
    have hpa : InP (ptA P a).1 ∧ InP (ptA P a).2 := hP _ (List.mem_of_getElem? ga)
    refine ⟨a, (ptA P a).1, (ptA P a).2, ea, by omega, rfl, ?_, hpa.1, hpa.2⟩
    unfold orS
    rw [ea, Int.toNat_natCast, Int.toNat_natCast, hptb]
  obtain ⟨p0, p1⟩ := p
  simp only [] at hp hcells hfacts d0 d1 pp hw1
  obtain ⟨r, hr⟩ : ∃ r, sideW P T (p0, p1) (vn : Int) = r := ⟨_, rfl⟩
  simp only []
  rw [hr]
  have HC := Lib.hid hcells; have HF := Lib.hid hfacts; have HB1 := Lib.hid hb1; have HRR := Lib.hid hr; have HPI := Lib.hid hp; have HBI := Lib.hid hpb
  have i3 : (0 : Int) ≤ (vn : Int) := by omega
  have i4 : (vn : Int) < (pn : Int) := by omega
  clear h hP hp hT hv0 hv hm1 hkl hsh hbl pp hb1 hs1 gv hptb hpb hcells hfacts hr hlen hpn lv
  go_enter Try.func74, Try.ntmps74
  go_wp2
  go_quiet (fail)
  clear c0 c1 c2 d0 d1 e1
  obtain ⟨wo, hwo⟩ : ∃ wo, w1.drewN nq = wo := ⟨_, rfl⟩
  have hbo : Below w1.heap.size w1 wo := by rw [← hwo]; exact Drew.below ⟨nq, rfl⟩
  rw [hwo]
  have HBO := Lib.hid hbo
  clear hwo hbo hw1
  go_wp2
  go_loopw [6, 7, 18] (fun _ _ iv wr => ∃ i : Nat, i ≤ 3 ∧ iv = .int .i64 (i : Int) ∧ Below w1.heap.size w1 wr ∧ ∀ j, j < i → orS P (T.v j) (p0, p1) (vn : Int) = 0) (fun _ _ iv _ => 3 - (intOf iv).toNat)
  case atStart => exact ⟨0, by omega, rfl, HBO.out, fun j hj => absurd hj (by omega)⟩
  case round =>
    obtain ⟨i, hi, rfl, hbw, hall⟩ := hrel
    have HBW := Lib.hid hbw; have HALL := Lib.hid hall
    have HB0 := Lib.hid (HB1.out.trans (hbw.mono HB1.out.size))
    clear hbw hall
    by_cases hlt : i < 3
    · have hyd : decide ((i : Int) < 3) = true := decide_eq_true (by omega)
      have ir := fun w => index3v_run T i hlt w
      obtain ⟨a, a0, a1, ea, la, hpa, hor, ha0, ha1⟩ := HF.out i hlt
      rw [ea] at ir
      have i5 : (0 : Int) ≤ (a : Int) := by omega
      have i6 : (a : Int) < (pn : Int) := by omega
      have CC : Hid (∀ w', Below wr.drew.heap.size wr.drew w' → (w'.cell? ⟨mb, 0, none⟩ = some (.slice (some ⟨pb, 0, none⟩) pn pc) ∧ w'.cell? ⟨pb, a * 2, none⟩ = some (.int .i64 a0) ∧ w'.cell? ⟨pb, a * 2 + 1, none⟩ = some (.int .i64 a1) ∧ w'.cell? ⟨pb, vn * 2, none⟩ = some (.int .i64 b0) ∧ w'.cell? ⟨pb, vn * 2 + 1, none⟩ = some (.int .i64 b1) ∧
          w'.cell? ⟨w.heap.size, 0, none⟩ = some (.pointer (some ⟨mb, 0, none⟩)) ∧ w'.cell? ⟨w.heap.size, 2, none⟩ = some (.int .i64 p0) ∧ w'.cell? ⟨w.heap.size, 3, none⟩ = some (.int .i64 p1))) := Lib.hid (by
        intro w' hb
        have hx := HC.out i w' hlt (HBW.out.drew'.trans (hb.mono HBW.out.drew'.size))
        rw [ea, Int.toNat_natCast, hpa] at hx
        exact hx)
      obtain ⟨s', hs'⟩ : ∃ s', (crs a0 a1 p0 p1 b0 b1).sign = s' := ⟨_, rfl⟩
      rw [hs'] at hor
      have co := fun w => Orient_is a0 a1 p0 p1 b0 b1 ha0 ha1 HPI.out.1 HPI.out.2 HBI.out.1 HBI.out.2 hs' w
      have CO := Lib.hid co; have HOR := Lib.hid hor; have HEA := Lib.hid ea
      clear co hor ea ha0 ha1 hs' la hpa
      have hD_0 := Below.refl wr.drew.heap.size wr.drew
      have hB_0 : Below w1.heap.size w1 wr.drew := HBW.out.drew'
      by_cases hz : s' = 0
      · have hyz : (s' != 0) = false := by simp [hz]
        have HZ := Lib.hid hz
        clear hz
        go_wp2
        go_region_held3 (fun w' => w'.cell? ⟨mb, 0, none⟩ = some (.slice (some ⟨pb, 0, none⟩) pn pc) ∧ w'.cell? ⟨pb, a * 2, none⟩ = some (.int .i64 a0) ∧ w'.cell? ⟨pb, a * 2 + 1, none⟩ = some (.int .i64 a1) ∧ w'.cell? ⟨pb, vn * 2, none⟩ = some (.int .i64 b0) ∧ w'.cell? ⟨pb, vn * 2 + 1, none⟩ = some (.int .i64 b1) ∧ w'.cell? ⟨w.heap.size, 0, none⟩ = some (.pointer (some ⟨mb, 0, none⟩)) ∧ w'.cell? ⟨w.heap.size, 2, none⟩ = some (.int .i64 p0) ∧ w'.cell? ⟨w.heap.size, 3, none⟩ = some (.int .i64 p1))
          (first | with_reducible exact CC.out _ hD_0 | with_reducible exact CC.out _ hD_1 | fail)
          (first | (go_at_call 12; (with_reducible refine (CO.out _).mono ?_); rintro e w4 ⟨rfl, hb4⟩; have hB_1 := hB_0.trans (hb4.mono hB_0.size); have hD_1 := hD_0.trans (hb4.mono hD_0.size)))
        have HB_1 := Lib.hid hB_1
        clear hB_0 hB_1 hD_0 hD_1
        go_wp2
        go_roundw
        case rel =>
          refine ⟨i + 1, by omega, by go_num, HB_1.out, fun j hj => ?_⟩
          rcases Nat.lt_or_ge j i with g | g
          · exact HALL.out j g
          · obtain rfl : j = i := by omega
            rw [HOR.out]; exact HZ.out
        case measure => simp [intOf]; omega
      · have hyz : (s' != 0) = true := by simp [hz]
        have HZ := Lib.hid hz
        clear hz
        go_wp2
        go_region_held3 (fun w' => w'.cell? ⟨mb, 0, none⟩ = some (.slice (some ⟨pb, 0, none⟩) pn pc) ∧ w'.cell? ⟨pb, a * 2, none⟩ = some (.int .i64 a0) ∧ w'.cell? ⟨pb, a * 2 + 1, none⟩ = some (.int .i64 a1) ∧ w'.cell? ⟨pb, vn * 2, none⟩ = some (.int .i64 b0) ∧ w'.cell? ⟨pb, vn * 2 + 1, none⟩ = some (.int .i64 b1) ∧ w'.cell? ⟨w.heap.size, 0, none⟩ = some (.pointer (some ⟨mb, 0, none⟩)) ∧ w'.cell? ⟨w.heap.size, 2, none⟩ = some (.int .i64 p0) ∧ w'.cell? ⟨w.heap.size, 3, none⟩ = some (.int .i64 p1))
          (first | with_reducible exact CC.out _ hD_0 | with_reducible exact CC.out _ hD_1 | fail)
          (first | (go_at_call 12; (with_reducible refine (CO.out _).mono ?_); rintro e w4 ⟨rfl, hb4⟩; have hB_1 := hB_0.trans (hb4.mono hB_0.size); have hD_1 := hD_0.trans (hb4.mono hD_0.size)))
        have HB_1 := Lib.hid (HB1.out.trans (hB_1.mono HB1.out.size))
        clear hB_0 hB_1 hD_0 hD_1
        go_wp2
        go_ret
        exact ⟨by rw [← HRR.out, sideW_at hlt (by rw [HOR.out]; exact HZ.out) HALL.out, HOR.out]; rfl, HB_1.out⟩
    · obtain rfl : i = 3 := by omega
      go_wp2
      go_ret
      exact ⟨by rw [← HRR.out, sideW_zero HALL.out]; rfl, HB0.out⟩
end Go.Proofs.Ytaedaknkpfeipaa
/- walk's way: leaves. Written by tools/walk1.py. -/
namespace Go.MagM
open Go.RowKit
/-- The way goes out of the triangle across edge i. -/
def leavesW (P : List (Int × Int)) (T0 T : TriM) (p : Int × Int) (i : Nat) : Bool := decide (sideW P T0 p (T.v ((i + 1) % 3)) < 0) && decide (0 < sideW P T0 p (T.v ((i + 2) % 3)))
end Go.MagM
namespace Go.Proofs.Ytaedaknkpfeipaa
open Go.RowKit Go.MagM
set_option maxRecDepth 100000 in
set_option maxHeartbeats 8000000 in
theorem leaves_any {mb pb pc : Nat} {ta : Option Addr} {tc : Nat} {P : List (Int × Int)} {S : List TriM} (s t i : Nat) (T0 T : TriM) (p : Int × Int) (w : World) (h : MeshR w mb pb pc ta tc P S) (hP : InPs P) (hp : InP p.1 ∧ InP p.2) (hS : S[s]? = some T0) (hT : S[t]? = some T) (hi : i < 3) (hv0 : ∀ i, i < 3 → InV P (T0.v i)) (hv : ∀ i, i < 3 → InV P (T.v i)) :
    Calls Try.prog 55 #[.agg #[.pointer (some ⟨mb, 0, none⟩), .int .i64 (s : Int), .int .i64 p.1, .int .i64 p.2], .int .i64 (t : Int), .int .i64 (i : Int)] w fun e w' => e = .returned (.bool (leavesW P T0 T p i)) ∧ Below w.heap.size w w' := by
  obtain ⟨w1, hw1, pp, hb1, hs1⟩ := new_box w _ rfl [.pointer (some ⟨mb, 0, none⟩), .int .i64 (s : Int), .int .i64 p.1, .int .i64 p.2] 100
  obtain ⟨vb, hvb⟩ : ∃ vb, w1.heap.size = vb := ⟨_, rfl⟩
  obtain ⟨w2, hw2, pv, hb2, hs2⟩ := new_box w1 _ rfl [.int .i64 T.v0, .int .i64 T.v1, .int .i64 T.v2] 23
  rw [hvb] at pv
  have hm1 := h.below hb1
  have hB2 : Below w.heap.size w w2 := hb1.trans (hb2.mono hb1.size)
  obtain ⟨len, hlen⟩ : ∃ len, S.length = len := ⟨_, rfl⟩
  have hkl := (List.getElem?_eq_some_iff.1 hT).1
  have e1 := hm1.box.c 1 _ rfl
  have hsh := h.short
  rw [hlen] at e1 hkl hsh
  obtain ⟨tb, rfl, hbl, ht⟩ := hm1.tris.get hT
  obtain ⟨c0, c1, c2, -, -, -, -, -, -⟩ := ht
  have d0 := pp.c 0 _ rfl
  have i1 : (0 : Int) ≤ (t : Int) := by omega
  have i2 : (t : Int) < (len : Int) := by omega
  have pp2 := pp.below hb2
  have m1 := mod3_one hi
  have m2 := mod3_two hi
  obtain ⟨k1, hk1⟩ : ∃ k1, (i + 1) % 3 = k1 := ⟨_, rfl⟩
  obtain ⟨k2, hk2⟩ : ∃ k2, (i + 2) % 3 = k2 := ⟨_, rfl⟩
  have hk13 : k1 < 3 := by omega
  have hk23 : k2 < 3 := by omega
  have y1 := box3_at pv hk13; have y2 := box3_at pv hk23
  obtain ⟨x1, hx1⟩ : ∃ x1, T.v k1 = x1 := ⟨_, rfl⟩
  obtain ⟨x2, hx2⟩ : ∃ x2, T.v k2 = x2 := ⟨_, rfl⟩
  have hv1 := hv k1 hk13; have hv2 := hv k2 hk23
  obtain ⟨r, hr⟩ : ∃ r, leavesW P T0 T p i = r := ⟨_, rfl⟩
  rw [hr]
  unfold leavesW at hr
  rw [hk1, hk2, hx1, hx2] at hr
  rw [hk1] at m1; rw [hk2] at m2
  rw [hx1] at y1 hv1; rw [hx2] at y2 hv2
  have hws : ∀ (x : Int) (wr : World), InV P x → Below w.heap.size w wr → Calls Try.prog 74 #[.agg #[.pointer (some ⟨mb, 0, none⟩), .int .i64 (s : Int), .int .i64 p.1, .int .i64 p.2], .int .i64 x] wr fun e w' => e = .returned (.int .i64 (sideW P T0 p x)) ∧ Below wr.heap.size wr w' :=
    fun x wr hx hb => wayside_any s T0 p x wr (h.below hb) hP hp hS hv0 hx
  obtain ⟨s1, hsd1⟩ : ∃ s1, sideW P T0 p x1 = s1 := ⟨_, rfl⟩
  obtain ⟨s2, hsd2⟩ : ∃ s2, sideW P T0 p x2 = s2 := ⟨_, rfl⟩
  have hc1 : ∀ wr : World, Below w2.heap.size w2 wr → Calls Try.prog 74 #[.agg #[.pointer (some ⟨mb, 0, none⟩), .int .i64 (s : Int), .int .i64 p.1, .int .i64 p.2], .int .i64 x1] wr fun e w' => e = .returned (.int .i64 s1) ∧ Below wr.heap.size wr w' := fun wr hb => by
    rw [← hsd1]; exact hws x1 wr hv1 (hB2.trans (hb.mono hB2.size))
  have hc2 : ∀ wr : World, Below w2.heap.size w2 wr → Calls Try.prog 74 #[.agg #[.pointer (some ⟨mb, 0, none⟩), .int .i64 (s : Int), .int .i64 p.1, .int .i64 p.2], .int .i64 x2] wr fun e w' => e = .returned (.int .i64 s2) ∧ Below wr.heap.size wr w' := fun wr hb => by
    rw [← hsd2]; exact hws x2 wr hv2 (hB2.trans (hb.mono hB2.size))
  rw [hsd1, hsd2] at hr
  obtain ⟨p0, p1⟩ := p
  simp only [] at hc1 hc2 pp2 d0 hw1 ⊢
  have hcc : ∀ w', Below w2.heap.size w2 w' → (w'.cell? ⟨w.heap.size, 0, none⟩ = some (.pointer (some ⟨mb, 0, none⟩)) ∧ w'.cell? ⟨w.heap.size, 1, none⟩ = some (.int .i64 (s : Int)) ∧ w'.cell? ⟨w.heap.size, 2, none⟩ = some (.int .i64 p0) ∧ w'.cell? ⟨w.heap.size, 3, none⟩ = some (.int .i64 p1) ∧ w'.cell? ⟨vb, k1, none⟩ = some (.int .i64 x1) ∧ w'.cell? ⟨vb, k2, none⟩ = some (.int .i64 x2)) := by
    intro w' hb
    have hpw := pp2.below hb; have hvw := pv.below hb
    have y1 := box3_at hvw hk13; have y2 := box3_at hvw hk23
    rw [hx1] at y1; rw [hx2] at y2
    exact ⟨hpw.c 0 _ rfl, hpw.c 1 _ rfl, hpw.c 2 _ rfl, hpw.c 3 _ rfl, y1, y2⟩
  have CC := Lib.hid hcc; have C1 := Lib.hid hc1; have C2 := Lib.hid hc2; have HRR := Lib.hid hr; have HB2 := Lib.hid hB2
  have i7 : (0 : Int) ≤ (k1 : Int) := by omega
  have i8 : (k1 : Int) < 3 := by omega
  have i9 : (0 : Int) ≤ (k2 : Int) := by omega
  have i10 : (k2 : Int) < 3 := by omega
  clear h hP hp hS hT hi hv0 hv hb1 hb2 hB2 pp pv pp2 hm1 hlen hkl hsh hbl hk1 hk2 y1 y2 hx1 hx2 hv1 hv2 hr hws hs1 hs2 hsd1 hsd2 hc1 hc2 hcc
  go_enter Try.func55, Try.ntmps55
  go_wp2
  clear c0 c1 c2 d0 e1 hw1 hw2
  have hB := Below.refl w2.heap.size w2
  by_cases hneg : s1 < 0
  · have hg : decide (s1 < 0) = true := decide_eq_true hneg
    have hB_0 := hB.drew'
    refine wp_region_noPanic ?_
    refine wp_region_held_drew (S := fun w' => w'.cell? ⟨w.heap.size, 0, none⟩ = some (.pointer (some ⟨mb, 0, none⟩)) ∧ w'.cell? ⟨w.heap.size, 1, none⟩ = some (.int .i64 (s : Int)) ∧ w'.cell? ⟨w.heap.size, 2, none⟩ = some (.int .i64 p0) ∧ w'.cell? ⟨w.heap.size, 3, none⟩ = some (.int .i64 p1) ∧ w'.cell? ⟨vb, k1, none⟩ = some (.int .i64 x1) ∧ w'.cell? ⟨vb, k2, none⟩ = some (.int .i64 x2)) (by kernel_rfl) (CC.out _ hB_0) (fun hHeld => ?_)
    refine reg_take 0 ?_ ?_ ?_ (by kernel_rfl) (by kernel_rfl) (by kernel_rfl) (fun _ _ _ h => h) ?_ ?_ (by assumption) ?_
    rotate_left 2
    · simp only [List.getElem?_toArray, List.getElem?_cons_zero]; exact rfl
    · rfl
    · intro w hSw; (try dsimp only at hSw); go_simp; try with_reducible rfl
    try simp only [Act.put]
    try simp only [List.setIfInBounds_toArray, List.set_cons_zero, List.set_cons_succ]
    refine reg_take 1 ?_ ?_ ?_ (by kernel_rfl) (by kernel_rfl) (by kernel_rfl) (fun _ _ _ h => h) ?_ ?_ (by assumption) ?_
    rotate_left 2
    · simp only [List.getElem?_toArray, List.getElem?_cons_succ, List.getElem?_cons_zero]; exact rfl
    · rfl
    · intro w hSw; (try dsimp only at hSw); go_simp; try with_reducible rfl
    try simp only [Act.put]
    try simp only [List.setIfInBounds_toArray, List.set_cons_zero, List.set_cons_succ]
    refine reg_take 2 ?_ ?_ ?_ (by kernel_rfl) (by kernel_rfl) (by kernel_rfl) (fun _ _ _ h => h) ?_ ?_ (by assumption) ?_
    rotate_left 2
    · simp only [List.getElem?_toArray, List.getElem?_cons_succ, List.getElem?_cons_zero]; exact rfl
    · rfl
    · intro w hSw; (try dsimp only at hSw); go_simp; try with_reducible rfl
    try simp only [Act.put]
    try simp only [List.setIfInBounds_toArray, List.set_cons_zero, List.set_cons_succ]
    refine reg_take 3 ?_ ?_ ?_ (by kernel_rfl) (by kernel_rfl) (by kernel_rfl) (fun _ _ _ h => h) ?_ ?_ (by assumption) ?_
    rotate_left 2
    · simp only [List.getElem?_toArray, List.getElem?_cons_succ, List.getElem?_cons_zero]; exact rfl
    · rfl
    · intro w hSw; (try dsimp only at hSw); go_simp; try with_reducible rfl
    try simp only [Act.put]
    try simp only [List.setIfInBounds_toArray, List.set_cons_zero, List.set_cons_succ]
    refine reg_take 4 ?_ ?_ ?_ (by kernel_rfl) (by kernel_rfl) (by kernel_rfl) (fun _ _ _ h => h) ?_ ?_ (by assumption) ?_
    rotate_left 2
    · simp only [List.getElem?_toArray, List.getElem?_cons_succ, List.getElem?_cons_zero]; exact rfl
    · rfl
    · intro w hSw; (try dsimp only at hSw); go_simp; try with_reducible rfl
    try simp only [Act.put]
    try simp only [List.setIfInBounds_toArray, List.set_cons_zero, List.set_cons_succ]
    refine reg_take 5 ?_ ?_ ?_ (by kernel_rfl) (by kernel_rfl) (by kernel_rfl) (fun _ _ _ h => h) ?_ ?_ (by assumption) ?_
    rotate_left 2
    · simp only [List.getElem?_toArray, List.getElem?_cons_succ, List.getElem?_cons_zero]; exact rfl
    · rfl
    · intro w hSw; (try dsimp only at hSw); go_simp; try with_reducible rfl
    try simp only [Act.put]
    try simp only [List.setIfInBounds_toArray, List.set_cons_zero, List.set_cons_succ]
    refine reg_call 6 ?_ (by kernel_rfl) ?_ (fun K hK => ?_)
    rotate_left 1
    · simp only [List.getElem?_toArray, List.getElem?_cons_succ, List.getElem?_cons_zero]; exact rfl
    go_simp
    refine (C1.out _ hB_0).mono ?_
    rintro e wq1 ⟨rfl, hbwq1⟩
    have hB_1 := hB_0.trans (hbwq1.mono hB_0.size)
    clear hbwq1
    go_wp2_with fail
    refine hK.out _ _ (CC.out _ hB_1) (fun hHeld => ?_)
    clear hK K
    try simp only [Act.put]
    try simp only [List.setIfInBounds_toArray, List.set_cons_zero, List.set_cons_succ]
    refine reg_take 7 ?_ ?_ ?_ (by kernel_rfl) (by kernel_rfl) (by kernel_rfl) (fun _ _ _ h => h) ?_ ?_ (by assumption) ?_
    rotate_left 2
    · simp only [List.getElem?_toArray, List.getElem?_cons_succ, List.getElem?_cons_zero]; exact rfl
    · rfl
    · intro w hSw; (try dsimp only at hSw); go_simp; try with_reducible rfl
    try simp only [Act.put]
    try simp only [List.setIfInBounds_toArray, List.set_cons_zero, List.set_cons_succ]
    refine reg_take 8 ?_ ?_ ?_ (by kernel_rfl) (by kernel_rfl) (by kernel_rfl) (fun _ _ _ h => h) ?_ ?_ (by assumption) ?_
    rotate_left 2
    · simp only [List.getElem?_toArray, List.getElem?_cons_succ, List.getElem?_cons_zero]; exact rfl
    · rfl
    · intro w hSw; (try dsimp only at hSw); go_simp; try with_reducible rfl
    try simp only [Act.put]
    try simp only [List.setIfInBounds_toArray, List.set_cons_zero, List.set_cons_succ]
    refine reg_take 9 ?_ ?_ ?_ (by kernel_rfl) (by kernel_rfl) (by kernel_rfl) (fun _ _ _ h => h) ?_ ?_ (by assumption) ?_
    rotate_left 2
    · simp only [List.getElem?_toArray, List.getElem?_cons_succ, List.getElem?_cons_zero]; exact rfl
    · rfl
    · intro w hSw; (try dsimp only at hSw); go_simp; try with_reducible rfl
    try simp only [Act.put]
    try simp only [List.setIfInBounds_toArray, List.set_cons_zero, List.set_cons_succ]
    refine reg_take 10 ?_ ?_ ?_ (by kernel_rfl) (by kernel_rfl) (by kernel_rfl) (fun _ _ _ h => h) ?_ ?_ (by assumption) ?_
    rotate_left 2
    · simp only [List.getElem?_toArray, List.getElem?_cons_succ, List.getElem?_cons_zero]; exact rfl
    · rfl
    · intro w hSw; (try dsimp only at hSw); go_simp; try with_reducible rfl
    try simp only [Act.put]
    try simp only [List.setIfInBounds_toArray, List.set_cons_zero, List.set_cons_succ]
    refine reg_take 11 ?_ ?_ ?_ (by kernel_rfl) (by kernel_rfl) (by kernel_rfl) (fun _ _ _ h => h) ?_ ?_ (by assumption) ?_
    rotate_left 2
    · simp only [List.getElem?_toArray, List.getElem?_cons_succ, List.getElem?_cons_zero]; exact rfl
    · rfl
    · intro w hSw; (try dsimp only at hSw); go_simp; try with_reducible rfl
    try simp only [Act.put]
    try simp only [List.setIfInBounds_toArray, List.set_cons_zero, List.set_cons_succ]
    refine reg_take 12 ?_ ?_ ?_ (by kernel_rfl) (by kernel_rfl) (by kernel_rfl) (fun _ _ _ h => h) ?_ ?_ (by assumption) ?_
    rotate_left 2
    · simp only [List.getElem?_toArray, List.getElem?_cons_succ, List.getElem?_cons_zero]; exact rfl
    · rfl
    · intro w hSw; (try dsimp only at hSw); go_simp; try with_reducible rfl
    try simp only [Act.put]
    try simp only [List.setIfInBounds_toArray, List.set_cons_zero, List.set_cons_succ]
    refine reg_take 13 ?_ ?_ ?_ (by kernel_rfl) (by kernel_rfl) (by kernel_rfl) (fun _ _ _ h => h) ?_ ?_ (by assumption) ?_
    rotate_left 2
    · simp only [List.getElem?_toArray, List.getElem?_cons_succ, List.getElem?_cons_zero]; exact rfl
    · rfl
    · intro w hSw; (try dsimp only at hSw); go_simp; try with_reducible rfl
    try simp only [Act.put]
    try simp only [List.setIfInBounds_toArray, List.set_cons_zero, List.set_cons_succ]
    refine reg_take 14 ?_ ?_ ?_ (by kernel_rfl) (by kernel_rfl) (by kernel_rfl) (fun _ _ _ h => h) ?_ ?_ (by assumption) ?_
    rotate_left 2
    · simp only [List.getElem?_toArray, List.getElem?_cons_succ, List.getElem?_cons_zero]; exact rfl
    · rfl
    · intro w hSw; (try dsimp only at hSw); go_simp; try with_reducible rfl
    try simp only [Act.put]
    try simp only [List.setIfInBounds_toArray, List.set_cons_zero, List.set_cons_succ]
    refine reg_call 15 ?_ (by kernel_rfl) ?_ (fun K hK => ?_)
    rotate_left 1
    · simp only [List.getElem?_toArray, List.getElem?_cons_succ, List.getElem?_cons_zero]; exact rfl
    go_simp
    refine (C2.out _ hB_1).mono ?_
    rintro e wq2 ⟨rfl, hbwq2⟩
    have hB_2 := hB_1.trans (hbwq2.mono hB_1.size)
    clear hbwq2
    go_wp2_with fail
    refine hK.out _ _ (CC.out _ hB_2) (fun hHeld => ?_)
    clear hK K
    try simp only [Act.put]
    try simp only [List.setIfInBounds_toArray, List.set_cons_zero, List.set_cons_succ]
    refine reg_take 16 ?_ ?_ ?_ (by kernel_rfl) (by kernel_rfl) (by kernel_rfl) (fun _ _ _ h => h) ?_ ?_ (by assumption) ?_
    rotate_left 2
    · simp only [List.getElem?_toArray, List.getElem?_cons_succ, List.getElem?_cons_zero]; exact rfl
    · rfl
    · intro w hSw; (try dsimp only at hSw); go_simp; try with_reducible rfl
    try simp only [Act.put]
    try simp only [List.setIfInBounds_toArray, List.set_cons_zero, List.set_cons_succ]
    refine reg_take 17 ?_ ?_ ?_ (by kernel_rfl) (by kernel_rfl) (by kernel_rfl) (fun _ _ _ h => h) ?_ ?_ (by assumption) ?_
    rotate_left 2
    · simp only [List.getElem?_toArray, List.getElem?_cons_succ, List.getElem?_cons_zero]; exact rfl
    · rfl
    · intro w hSw; (try dsimp only at hSw); go_simp; try with_reducible rfl
    try simp only [Act.put]
    try simp only [List.setIfInBounds_toArray, List.set_cons_zero, List.set_cons_succ]
    refine reg_take 18 ?_ ?_ ?_ (by kernel_rfl) (by kernel_rfl) (by kernel_rfl) (fun _ _ _ h => h) ?_ ?_ (by assumption) ?_
    rotate_left 2
    · simp only [List.getElem?_toArray, List.getElem?_cons_succ, List.getElem?_cons_zero]; exact rfl
    · rfl
    · intro w hSw; (try dsimp only at hSw); go_simp; try with_reducible rfl
    try simp only [Act.put]
    try simp only [List.setIfInBounds_toArray, List.set_cons_zero, List.set_cons_succ]
    refine wpAnyH_done (by kernel_rfl) ?_ _
    refine NoPanic.normal ?_
    have HBF := Lib.hid (HB2.out.trans (hB_2.mono HB2.out.size))
    clear hB hB_0 hB_1 hB_2
    go_wp2
    go_ret
    exact ⟨by rw [← HRR.out, hg]; rfl, HBF.out⟩
  · have hg : decide (s1 < 0) = false := decide_eq_false hneg
    have hB_0 := hB.drew'
    refine wp_region_noPanic ?_
    refine wp_region_held_drew (S := fun w' => w'.cell? ⟨w.heap.size, 0, none⟩ = some (.pointer (some ⟨mb, 0, none⟩)) ∧ w'.cell? ⟨w.heap.size, 1, none⟩ = some (.int .i64 (s : Int)) ∧ w'.cell? ⟨w.heap.size, 2, none⟩ = some (.int .i64 p0) ∧ w'.cell? ⟨w.heap.size, 3, none⟩ = some (.int .i64 p1) ∧ w'.cell? ⟨vb, k1, none⟩ = some (.int .i64 x1) ∧ w'.cell? ⟨vb, k2, none⟩ = some (.int .i64 x2)) (by kernel_rfl) (CC.out _ hB_0) (fun hHeld => ?_)
    refine reg_take 0 ?_ ?_ ?_ (by kernel_rfl) (by kernel_rfl) (by kernel_rfl) (fun _ _ _ h => h) ?_ ?_ (by assumption) ?_
    rotate_left 2
    · simp only [List.getElem?_toArray, List.getElem?_cons_zero]; exact rfl
    · rfl
    · intro w hSw; (try dsimp only at hSw); go_simp; try with_reducible rfl
    try simp only [Act.put]
    try simp only [List.setIfInBounds_toArray, List.set_cons_zero, List.set_cons_succ]
    refine reg_take 1 ?_ ?_ ?_ (by kernel_rfl) (by kernel_rfl) (by kernel_rfl) (fun _ _ _ h => h) ?_ ?_ (by assumption) ?_
    rotate_left 2
    · simp only [List.getElem?_toArray, List.getElem?_cons_succ, List.getElem?_cons_zero]; exact rfl
    · rfl
    · intro w hSw; (try dsimp only at hSw); go_simp; try with_reducible rfl
    try simp only [Act.put]
    try simp only [List.setIfInBounds_toArray, List.set_cons_zero, List.set_cons_succ]
    refine reg_take 2 ?_ ?_ ?_ (by kernel_rfl) (by kernel_rfl) (by kernel_rfl) (fun _ _ _ h => h) ?_ ?_ (by assumption) ?_
    rotate_left 2
    · simp only [List.getElem?_toArray, List.getElem?_cons_succ, List.getElem?_cons_zero]; exact rfl
    · rfl
    · intro w hSw; (try dsimp only at hSw); go_simp; try with_reducible rfl
    try simp only [Act.put]
    try simp only [List.setIfInBounds_toArray, List.set_cons_zero, List.set_cons_succ]
    refine reg_take 3 ?_ ?_ ?_ (by kernel_rfl) (by kernel_rfl) (by kernel_rfl) (fun _ _ _ h => h) ?_ ?_ (by assumption) ?_
    rotate_left 2
    · simp only [List.getElem?_toArray, List.getElem?_cons_succ, List.getElem?_cons_zero]; exact rfl
    · rfl
    · intro w hSw; (try dsimp only at hSw); go_simp; try with_reducible rfl
    try simp only [Act.put]
    try simp only [List.setIfInBounds_toArray, List.set_cons_zero, List.set_cons_succ]
    refine reg_take 4 ?_ ?_ ?_ (by kernel_rfl) (by kernel_rfl) (by kernel_rfl) (fun _ _ _ h => h) ?_ ?_ (by assumption) ?_
    rotate_left 2
    · simp only [List.getElem?_toArray, List.getElem?_cons_succ, List.getElem?_cons_zero]; exact rfl
    · rfl
    · intro w hSw; (try dsimp only at hSw); go_simp; try with_reducible rfl
    try simp only [Act.put]
    try simp only [List.setIfInBounds_toArray, List.set_cons_zero, List.set_cons_succ]
    refine reg_take 5 ?_ ?_ ?_ (by kernel_rfl) (by kernel_rfl) (by kernel_rfl) (fun _ _ _ h => h) ?_ ?_ (by assumption) ?_
    rotate_left 2
    · simp only [List.getElem?_toArray, List.getElem?_cons_succ, List.getElem?_cons_zero]; exact rfl
    · rfl
    · intro w hSw; (try dsimp only at hSw); go_simp; try with_reducible rfl
    try simp only [Act.put]
    try simp only [List.setIfInBounds_toArray, List.set_cons_zero, List.set_cons_succ]
    refine reg_call 6 ?_ (by kernel_rfl) ?_ (fun K hK => ?_)
    rotate_left 1
    · simp only [List.getElem?_toArray, List.getElem?_cons_succ, List.getElem?_cons_zero]; exact rfl
    go_simp
    refine (C1.out _ hB_0).mono ?_
    rintro e wq1 ⟨rfl, hbwq1⟩
    have hB_1 := hB_0.trans (hbwq1.mono hB_0.size)
    clear hbwq1
    go_wp2_with fail
    refine hK.out _ _ (CC.out _ hB_1) (fun hHeld => ?_)
    clear hK K
    try simp only [Act.put]
    try simp only [List.setIfInBounds_toArray, List.set_cons_zero, List.set_cons_succ]
    refine reg_take 7 ?_ ?_ ?_ (by kernel_rfl) (by kernel_rfl) (by kernel_rfl) (fun _ _ _ h => h) ?_ ?_ (by assumption) ?_
    rotate_left 2
    · simp only [List.getElem?_toArray, List.getElem?_cons_succ, List.getElem?_cons_zero]; exact rfl
    · rfl
    · intro w hSw; (try dsimp only at hSw); go_simp; try with_reducible rfl
    try simp only [Act.put]
    try simp only [List.setIfInBounds_toArray, List.set_cons_zero, List.set_cons_succ]
    refine reg_take 8 ?_ ?_ ?_ (by kernel_rfl) (by kernel_rfl) (by kernel_rfl) (fun _ _ _ h => h) ?_ ?_ (by assumption) ?_
    rotate_left 2
    · simp only [List.getElem?_toArray, List.getElem?_cons_succ, List.getElem?_cons_zero]; exact rfl
    · rfl
    · intro w hSw; (try dsimp only at hSw); go_simp; try with_reducible rfl
    try simp only [Act.put]
    try simp only [List.setIfInBounds_toArray, List.set_cons_zero, List.set_cons_succ]
    refine reg_skip 9 ?_ ?_ (by kernel_rfl) (by kernel_rfl) (by kernel_rfl) (fun _ _ _ h => h) ?_ (by assumption) ?_
    rotate_left 1
    · simp only [List.getElem?_toArray, List.getElem?_cons_succ, List.getElem?_cons_zero]; exact rfl
    · rfl
    try simp only [Act.put]
    try simp only [List.setIfInBounds_toArray, List.set_cons_zero, List.set_cons_succ]
    refine reg_skip 10 ?_ ?_ (by kernel_rfl) (by kernel_rfl) (by kernel_rfl) (fun _ _ _ h => h) ?_ (by assumption) ?_
    rotate_left 1
    · simp only [List.getElem?_toArray, List.getElem?_cons_succ, List.getElem?_cons_zero]; exact rfl
    · rfl
    try simp only [Act.put]
    try simp only [List.setIfInBounds_toArray, List.set_cons_zero, List.set_cons_succ]
    refine reg_skip 11 ?_ ?_ (by kernel_rfl) (by kernel_rfl) (by kernel_rfl) (fun _ _ _ h => h) ?_ (by assumption) ?_
    rotate_left 1
    · simp only [List.getElem?_toArray, List.getElem?_cons_succ, List.getElem?_cons_zero]; exact rfl
    · rfl
    try simp only [Act.put]
    try simp only [List.setIfInBounds_toArray, List.set_cons_zero, List.set_cons_succ]
    refine reg_skip 12 ?_ ?_ (by kernel_rfl) (by kernel_rfl) (by kernel_rfl) (fun _ _ _ h => h) ?_ (by assumption) ?_
    rotate_left 1
    · simp only [List.getElem?_toArray, List.getElem?_cons_succ, List.getElem?_cons_zero]; exact rfl
    · rfl
    try simp only [Act.put]
    try simp only [List.setIfInBounds_toArray, List.set_cons_zero, List.set_cons_succ]
    refine reg_skip 13 ?_ ?_ (by kernel_rfl) (by kernel_rfl) (by kernel_rfl) (fun _ _ _ h => h) ?_ (by assumption) ?_
    rotate_left 1
    · simp only [List.getElem?_toArray, List.getElem?_cons_succ, List.getElem?_cons_zero]; exact rfl
    · rfl
    try simp only [Act.put]
    try simp only [List.setIfInBounds_toArray, List.set_cons_zero, List.set_cons_succ]
    refine reg_skip 14 ?_ ?_ (by kernel_rfl) (by kernel_rfl) (by kernel_rfl) (fun _ _ _ h => h) ?_ (by assumption) ?_
    rotate_left 1
    · simp only [List.getElem?_toArray, List.getElem?_cons_succ, List.getElem?_cons_zero]; exact rfl
    · rfl
    try simp only [Act.put]
    try simp only [List.setIfInBounds_toArray, List.set_cons_zero, List.set_cons_succ]
    refine reg_skip 15 ?_ ?_ (by kernel_rfl) (by kernel_rfl) (by kernel_rfl) (fun _ _ _ h => h) ?_ (by assumption) ?_
    rotate_left 1
    · simp only [List.getElem?_toArray, List.getElem?_cons_succ, List.getElem?_cons_zero]; exact rfl
    · rfl
    try simp only [Act.put]
    try simp only [List.setIfInBounds_toArray, List.set_cons_zero, List.set_cons_succ]
    refine reg_skip 16 ?_ ?_ (by kernel_rfl) (by kernel_rfl) (by kernel_rfl) (fun _ _ _ h => h) ?_ (by assumption) ?_
    rotate_left 1
    · simp only [List.getElem?_toArray, List.getElem?_cons_succ, List.getElem?_cons_zero]; exact rfl
    · rfl
    try simp only [Act.put]
    try simp only [List.setIfInBounds_toArray, List.set_cons_zero, List.set_cons_succ]
    refine reg_take 17 ?_ ?_ ?_ (by kernel_rfl) (by kernel_rfl) (by kernel_rfl) (fun _ _ _ h => h) ?_ ?_ (by assumption) ?_
    rotate_left 2
    · simp only [List.getElem?_toArray, List.getElem?_cons_succ, List.getElem?_cons_zero]; exact rfl
    · rfl
    · intro w hSw; (try dsimp only at hSw); go_simp; try with_reducible rfl
    try simp only [Act.put]
    try simp only [List.setIfInBounds_toArray, List.set_cons_zero, List.set_cons_succ]
    refine reg_take 18 ?_ ?_ ?_ (by kernel_rfl) (by kernel_rfl) (by kernel_rfl) (fun _ _ _ h => h) ?_ ?_ (by assumption) ?_
    rotate_left 2
    · simp only [List.getElem?_toArray, List.getElem?_cons_succ, List.getElem?_cons_zero]; exact rfl
    · rfl
    · intro w hSw; (try dsimp only at hSw); go_simp; try with_reducible rfl
    try simp only [Act.put]
    try simp only [List.setIfInBounds_toArray, List.set_cons_zero, List.set_cons_succ]
    refine wpAnyH_done (by kernel_rfl) ?_ _
    refine NoPanic.normal ?_
    have HBF := Lib.hid (HB2.out.trans (hB_1.mono HB2.out.size))
    clear hB hB_0 hB_1
    go_wp2
    go_ret
    exact ⟨by rw [← HRR.out, hg]; rfl, HBF.out⟩
end Go.Proofs.Ytaedaknkpfeipaa
/- walk's Look. -/
namespace Go.MagM
open Go.RowKit
/-- The first of n. -/
def firstN (f : Nat → Bool) : Nat → Option Nat
  | 0 => none
  | n + 1 => match firstN f n with
    | some j => some j
    | none => if f n = true then some n else none
theorem firstN_none {f : Nat → Bool} : ∀ {n : Nat}, (∀ j, j < n → f j = false) → firstN f n = none
  | 0, _ => rfl
  | n + 1, h => by
    rw [firstN, firstN_none (fun j hj => h j (by omega))]
    simp only []
    rw [h n (by omega)]; rfl
theorem firstN_at {f : Nat → Bool} {k : Nat} (hf : f k = true) (hn : ∀ j, j < k → f j = false) : ∀ {n : Nat}, k < n → firstN f n = some k
  | n + 1, h => by
    rcases Nat.lt_or_ge k n with g | g
    · rw [firstN, firstN_at hf hn g]
    · obtain rfl : k = n := by omega
      rw [firstN, firstN_none hn]
      simp only []
      rw [hf]; rfl
theorem firstN_some {f : Nat → Bool} {k : Nat} : ∀ {n : Nat}, firstN f n = some k → k < n ∧ f k = true ∧ ∀ j, j < k → f j = false
  | 0, h => by cases h
  | n + 1, h => by
    rw [firstN] at h
    cases hc : firstN f n with
    | some j =>
      rw [hc] at h
      simp only [] at h
      cases h
      obtain ⟨a, b, c⟩ := firstN_some hc
      exact ⟨by omega, b, c⟩
    | none =>
      rw [hc] at h
      simp only [] at h
      split at h
      · rename_i hf
        cases h
        refine ⟨by omega, hf, fun j hj => ?_⟩
        cases hj2 : f j with
        | false => rfl
        | true => exact absurd (firstN_ex hj2 hj) (by rw [hc]; simp)
      · cases h
where firstN_ex {f : Nat → Bool} {j : Nat} (hf : f j = true) : ∀ {n : Nat}, j < n → firstN f n ≠ none
  | n + 1, h => by
    rw [firstN]
    cases hc : firstN f n with
    | some k => simp
    | none =>
      simp only []
      rcases Nat.lt_or_ge j n with g | g
      · exact absurd hc (firstN_ex hf g)
      · obtain rfl : j = n := by omega
        rw [hf]; simp
def heldAt (P : List (Int × Int)) (S : List TriM) (p : Int × Int) (k : Nat) : Bool := match S[k]? with
  | some T => realT T && holdsT P T p
  | none => false
def faceAt (P : List (Int × Int)) (S : List TriM) (p : Int × Int) (k : Nat) : Bool := match S[k]? with
  | some T => facesT P T p
  | none => false
def encN : Option Nat → Int
  | some k => (k : Int)
  | none => -1
def lookM (P : List (Int × Int)) (S : List TriM) (p : Int × Int) : Int × Int × Int × Int :=
  match firstN (heldAt P S p) S.length with
  | some t => (match S[t]? with
    | some T => withinT P T t p
    | none => (0, 0, 0, 0))
  | none => (3, encN (firstN (faceAt P S p) S.length), 0, 0)
theorem look_held {P : List (Int × Int)} {S : List TriM} {p : Int × Int} {t : Nat} {T : TriM} (hT : S[t]? = some T) (h : (realT T && holdsT P T p) = true) (hn : ∀ j, j < t → heldAt P S p j = false) : lookM P S p = withinT P T t p := by
  have ha : heldAt P S p t = true := by unfold heldAt; rw [hT]; exact h
  unfold lookM
  rw [firstN_at ha hn (List.getElem?_eq_some_iff.1 hT).1]
  simp only [hT]
theorem look_out {P : List (Int × Int)} {S : List TriM} {p : Int × Int} (hn : ∀ j, j < S.length → heldAt P S p j = false) : lookM P S p = (3, encN (firstN (faceAt P S p) S.length), 0, 0) := by
  unfold lookM
  rw [firstN_none hn]
/-- What a mesh must have, that points are looked for in it. -/
def LookIn (P : List (Int × Int)) (S : List TriM) : Prop := ∀ (t : Nat) (T : TriM), S[t]? = some T → RealIn P T ∧ FaceIn P T
end Go.MagM
namespace Go.Proofs.Ytaedaknkpfeipaa
open Go.RowKit Go.MagM
set_option maxRecDepth 100000 in
set_option maxHeartbeats 8000000 in
theorem Look_any {mb pb pc : Nat} {ta : Option Addr} {tc : Nat} {P : List (Int × Int)} {S : List TriM} (p : Int × Int) (w : World) (h : MeshR w mb pb pc ta tc P S) (hP : InPs P) (hp : InP p.1 ∧ InP p.2) (hl : LookIn P S) :
    Calls Try.prog 27 #[.pointer (some ⟨mb, 0, none⟩), .agg #[.int .i64 p.1, .int .i64 p.2]] w fun e w' => e = .returned (placeV (lookM P S p)) ∧ Below w.heap.size w w' := by
  obtain ⟨w1, hw1, pp, hb1, hs1⟩ := new_box w _ rfl [.int .i64 p.1, .int .i64 p.2] 26
  obtain ⟨lb, hlb⟩ : ∃ lb, w1.heap.size = lb := ⟨_, rfl⟩
  obtain ⟨w2, hw2, pl, hb2, hs2⟩ := new_box w1 _ rfl [.int .i64 0, .int .i64 0, .int .i64 0, .int .i64 0] 69
  rw [hlb] at pl
  have hB2 : Below w.heap.size w w2 := hb1.trans (hb2.mono hb1.size)
  have pp2 := pp.below hb2
  have hlw : w.heap.size ≤ lb := by rw [← hlb]; exact hb1.size
  obtain ⟨len, hlen⟩ : ∃ len, S.length = len := ⟨_, rfl⟩
  have e1 := (h.below hB2).box.c 1 _ rfl
  have hsh := h.short
  rw [hlen] at e1 hsh
  have hho : ∀ (t : Nat) (T : TriM) (wr : World), S[t]? = some T → Below w.heap.size w wr → Calls Try.prog 28 #[.pointer (some ⟨mb, 0, none⟩), .int .i64 (t : Int), .agg #[.int .i64 p.1, .int .i64 p.2]] wr fun e w' => e = .returned (.bool (realT T && holdsT P T p)) ∧ Below wr.heap.size wr w' :=
    fun t T wr hT hb => Holds_any t T p wr (h.below hb) hP hp hT (hl t T hT).1
  have hwi : ∀ (t : Nat) (T : TriM) (wr : World), S[t]? = some T → realT T = true → Below w.heap.size w wr → Calls Try.prog 56 #[.pointer (some ⟨mb, 0, none⟩), .int .i64 (t : Int), .agg #[.int .i64 p.1, .int .i64 p.2]] wr fun e w' => e = .returned (placeV (withinT P T t p)) ∧ Below wr.heap.size wr w' :=
    fun t T wr hT hr hb => wwithin_any t T p wr (h.below hb) hP hp hT ((hl t T hT).1 hr)
  have hfa : ∀ (t : Nat) (T : TriM) (wr : World), S[t]? = some T → Below w.heap.size w wr → Calls Try.prog 59 #[.pointer (some ⟨mb, 0, none⟩), .int .i64 (t : Int), .agg #[.int .i64 p.1, .int .i64 p.2]] wr fun e w' => e = .returned (.bool (facesT P T p)) ∧ Below wr.heap.size wr w' :=
    fun t T wr hT hb => faces_any t T p wr (h.below hb) hP hp hT (hl t T hT).2
  obtain ⟨q, hq⟩ : ∃ q, lookM P S p = q := ⟨_, rfl⟩
  rw [hq]
  have HQ := Lib.hid hq; have HO := Lib.hid hho; have WI := Lib.hid hwi; have FA := Lib.hid hfa; have HB2 := Lib.hid hB2; have PL := Lib.hid pl; have PP := Lib.hid pp2; have HLW := Lib.hid hlw; have HLEN := Lib.hid hlen
  clear h hP hp hl hq hho hwi hfa hb1 hb2 hB2 pp pl pp2 hlw hs1 hs2 hlen
  go_enter Try.func27, Try.ntmps27
  go_wp2
  clear e1
  go_loopw [5, 6, 12] (fun gv _ iv wr => ∃ (i : Nat) (g : Option Nat), i ≤ len ∧ iv = .int .i64 (i : Int) ∧ gv = .int .i64 (encN g) ∧ g = firstN (faceAt P S p) i ∧ Below w2.heap.size w2 wr ∧ ∀ j, j < i → heldAt P S p j = false) (fun _ _ iv _ => len - (intOf iv).toNat)
  case atStart => exact ⟨0, none, by omega, rfl, rfl, rfl, Below.refl _ _, fun j hj => absurd hj (by omega)⟩
  case round =>
    obtain ⟨i, g, hi, rfl, rfl, hg, hbw, hall⟩ := hrel
    have HBW := Lib.hid hbw; have HALL := Lib.hid hall; have HG := Lib.hid hg
    have HBW0 := Lib.hid (HB2.out.trans (hbw.mono HB2.out.size))
    clear hbw hall hg
    by_cases hlt : i < len
    · have hyd : decide ((i : Int) < (len : Int)) = true := decide_eq_true (by omega)
      obtain ⟨T, hT⟩ : ∃ T, S[i]? = some T := ⟨_, List.getElem?_eq_getElem (by rw [HLEN.out]; exact hlt)⟩
      have ho := HO.out i T wr hT HBW0.out
      obtain ⟨b, hb⟩ : ∃ b, (realT T && holdsT P T p) = b := ⟨_, rfl⟩
      rw [hb] at ho
      have c0 := (PP.out.below HBW.out).c 0 _ rfl; have c1 := (PP.out.below HBW.out).c 1 _ rfl
      have HHO := Lib.hid ho; have HT := Lib.hid hT; have HBT := Lib.hid hb
      clear ho hT hb
      cases b with
      | true =>
        go_wp2_with fail
        refine HHO.out.mono ?_
        rintro e w3 ⟨rfl, hb3⟩
        have hbr : realT T = true := by have := HBT.out; rw [Bool.and_eq_true] at this; exact this.1
        have hb03 := HBW0.out.trans (hb3.mono HBW0.out.size)
        have hw := WI.out i T w3 HT.out hbr hb03
        obtain ⟨⟨x0, x1, x2, x3⟩, hx⟩ : ∃ x, withinT P T i p = x := ⟨_, rfl⟩
        rw [hx] at hw
        unfold placeV at hw
        simp only [] at hw
        have hb33 := HBW.out.trans (hb3.mono HBW.out.size)
        have d0 := (PP.out.below hb33).c 0 _ rfl; have d1 := (PP.out.below hb33).c 1 _ rfl
        have HWI := Lib.hid hw; have HX := Lib.hid hx; have HB33 := Lib.hid hb33
        clear c0 c1 hb3 hbr hb03 hw hx hb33
        go_wp2_with fail
        refine HWI.out.mono ?_
        rintro e w4 ⟨rfl, hb4⟩
        have hbq := HB33.out.trans (hb4.mono HB33.out.size)
        clear d0 d1 hb4
        have plq := PL.out.below hbq
        obtain ⟨wz, hwz⟩ : ∃ wz, setAll w4 lb 0 [.int .i64 x0, .int .i64 x1, .int .i64 x2, .int .i64 x3] = wz := ⟨_, rfl⟩
        have pz : Box wz lb [.int .i64 x0, .int .i64 x1, .int .i64 x2, .int .i64 x3] := by rw [← hwz]; exact plq.setAll [.int .i64 x0, .int .i64 x1, .int .i64 x2, .int .i64 x3] rfl
        have hbz : Below w.heap.size w wz := by rw [← hwz]; exact below_setAll (HB2.out.trans (hbq.mono HB2.out.size)) HLW.out _
        have z0 := pz.c 0 _ rfl; have z1 := pz.c 1 _ rfl; have z2 := pz.c 2 _ rfl; have z3 := pz.c 3 _ rfl
        have o0 := plq.c 0 _ rfl; have o1 := plq.c 1 _ rfl; have o2 := plq.c 2 _ rfl; have o3 := plq.c 3 _ rfl
        have g0 := plq.f 0 _ rfl; have g1 := plq.f 1 _ rfl; have g2 := plq.f 2 _ rfl; have g3 := plq.f 3 _ rfl
        have HWZ := Lib.hid hwz; have HBZ := Lib.hid hbz; have HZ0 := Lib.hid z0; have HZ1 := Lib.hid z1; have HZ2 := Lib.hid z2; have HZ3 := Lib.hid z3
        clear hbq plq hwz pz hbz z0 z1 z2 z3
        go_wp2
        clear o0 o1 o2 o3 g0 g1 g2 g3
        have z0 := HZ0.out; have z1 := HZ1.out; have z2 := HZ2.out; have z3 := HZ3.out
        have hwz := HWZ.out
        simp only [setAll] at hwz
        rw [hwz]
        (try simp only [Exit.inBlock, Exit.then])
        refine bodyPost_ret (v := .agg #[.int .i64 x0, .int .i64 x1, .int .i64 x2, .int .i64 x3]) ?_ rfl ?_
        · simp [results, Try.results27, go_sem, z0, z1, z2, z3]
        · exact ⟨by rw [← HQ.out, look_held HT.out HBT.out HALL.out, HX.out]; rfl, HBZ.out⟩
      | false =>
        have hall' : ∀ j, j < i + 1 → heldAt P S p j = false := fun j hj => by
          rcases Nat.lt_or_ge j i with g | g
          · exact HALL.out j g
          · obtain rfl : j = i := by omega
            unfold heldAt; rw [HT.out]; exact HBT.out
        have HALL' := Lib.hid hall'
        clear hall'
        cases g with
        | some u =>
          have hyu : ((u : Int) == -1) = false := by simp
          have hfn : firstN (faceAt P S p) (i + 1) = some u := by rw [firstN, ← HG.out]
          have HFN := Lib.hid hfn
          clear hfn
          unfold encN
          go_wp2_with fail
          refine HHO.out.mono ?_
          rintro e w3 ⟨rfl, hb3⟩
          have HB33 := Lib.hid (HBW.out.trans (hb3.mono HBW.out.size))
          clear c0 c1 hb3
          go_wp2
          go_roundw
          case rel => exact ⟨i + 1, some u, by omega, by go_num, rfl, HFN.out.symm, HB33.out, HALL'.out⟩
          case measure => simp [intOf]; omega
        | none =>
          have hfc : firstN (faceAt P S p) (i + 1) = if facesT P T p = true then some i else none := by
            rw [firstN, ← HG.out]
            simp only []
            unfold faceAt
            rw [HT.out]
          obtain ⟨f, hf⟩ : ∃ f, facesT P T p = f := ⟨_, rfl⟩
          rw [hf] at hfc
          have HF := Lib.hid hf; have HFC := Lib.hid hfc
          clear hf hfc
          unfold encN
          go_wp2_with fail
          refine HHO.out.mono ?_
          rintro e w3 ⟨rfl, hb3⟩
          have hb33 := HBW.out.trans (hb3.mono HBW.out.size)
          have hff := FA.out i T w3 HT.out (HBW0.out.trans (hb3.mono HBW0.out.size))
          rw [HF.out] at hff
          have d0 := (PP.out.below hb33).c 0 _ rfl; have d1 := (PP.out.below hb33).c 1 _ rfl
          have HFF := Lib.hid hff; have HB33 := Lib.hid hb33
          clear c0 c1 hb3 hb33 hff
          go_wp2_with fail
          refine HFF.out.mono ?_
          rintro e w4 ⟨rfl, hb4⟩
          have HB44 := Lib.hid (HB33.out.trans (hb4.mono HB33.out.size))
          clear hb4 d0 d1
          cases f with
          | true =>
            go_wp2
            go_roundw
            case rel => exact ⟨i + 1, some i, by omega, by go_num, rfl, HFC.out.symm, HB44.out, HALL'.out⟩
            case measure => simp [intOf]; omega
          | false =>
            go_wp2
            go_roundw
            case rel => exact ⟨i + 1, none, by omega, by go_num, rfl, HFC.out.symm, HB44.out, HALL'.out⟩
            case measure => simp [intOf]; omega
    · obtain rfl : i = len := by omega
      obtain ⟨x1, hx1⟩ : ∃ x1, encN g = x1 := ⟨_, rfl⟩
      rw [hx1]
      have HX1 := Lib.hid hx1
      clear hx1
      have hbq := HBW.out
      have plq := PL.out.below hbq
      obtain ⟨wz, hwz⟩ : ∃ wz, setAll wr lb 0 [.int .i64 3, .int .i64 x1, .int .i64 0, .int .i64 0] = wz := ⟨_, rfl⟩
      have pz : Box wz lb [.int .i64 3, .int .i64 x1, .int .i64 0, .int .i64 0] := by rw [← hwz]; exact plq.setAll [.int .i64 3, .int .i64 x1, .int .i64 0, .int .i64 0] rfl
      have hbz : Below w.heap.size w wz := by rw [← hwz]; exact below_setAll (HB2.out.trans (hbq.mono HB2.out.size)) HLW.out _
      have z0 := pz.c 0 _ rfl; have z1 := pz.c 1 _ rfl; have z2 := pz.c 2 _ rfl; have z3 := pz.c 3 _ rfl
      have o0 := plq.c 0 _ rfl; have o1 := plq.c 1 _ rfl; have o2 := plq.c 2 _ rfl; have o3 := plq.c 3 _ rfl
      have g0 := plq.f 0 _ rfl; have g1 := plq.f 1 _ rfl; have g2 := plq.f 2 _ rfl; have g3 := plq.f 3 _ rfl
      have HWZ := Lib.hid hwz; have HBZ := Lib.hid hbz; have HZ0 := Lib.hid z0; have HZ1 := Lib.hid z1; have HZ2 := Lib.hid z2; have HZ3 := Lib.hid z3
      clear hbq plq hwz pz hbz z0 z1 z2 z3
      go_wp2
      clear o0 o1 o2 o3 g0 g1 g2 g3
      have z0 := HZ0.out; have z1 := HZ1.out; have z2 := HZ2.out; have z3 := HZ3.out
      have hwz := HWZ.out
      simp only [setAll] at hwz
      rw [hwz]
      (try simp only [Exit.inBlock, Exit.then])
      refine bodyPost_ret (v := .agg #[.int .i64 3, .int .i64 x1, .int .i64 0, .int .i64 0]) ?_ rfl ?_
      · simp [results, Try.results27, go_sem, z0, z1, z2, z3]
      · exact ⟨by rw [← HQ.out, look_out (fun j hj => HALL.out j (by rw [← HLEN.out]; exact hj)), HLEN.out, ← HG.out, HX1.out]; rfl, HBZ.out⟩
end Go.Proofs.Ytaedaknkpfeipaa
