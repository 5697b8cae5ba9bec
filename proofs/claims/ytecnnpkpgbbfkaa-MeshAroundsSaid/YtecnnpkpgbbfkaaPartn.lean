/- mesh's iterators: round (from a first triangle on). -/
import Derived.RangeFuncBox
import Derived.RangeFuncCalls
import Derived.RangeFuncLeaves
import Derived.Shelf.Abstract
import Derived.Shelf.RegionOpen
import Derived.WalkKit
import Derived.OwnWalkIn
import Derived.TacticsInMore
import Derived.LoopNIn
import Derived.LoopIn
import Derived.Test.YtecnnpkpgbbfkaaPartm
import Derived.StillTailTactics
import Derived.Test.YtecnnpkpgbbfkaaPartk
import Derived.Test.YtecnnpkpgbbfkaaMapK
namespace Go.MagM
open Go.RowKit
/-- These blocks stay. -/
def KeepB (Pb : Nat → Prop) (W W' : World) : Prop := ∀ b, Pb b → W'.heap[b]? = W.heap[b]?
theorem KeepB.refl (Pb : Nat → Prop) (W : World) : KeepB Pb W W := fun _ _ => rfl
theorem KeepB.trans {Pb : Nat → Prop} {A B C : World} (h : KeepB Pb A B) (k : KeepB Pb B C) : KeepB Pb A C := fun b hb => (k b hb).trans (h b hb)
theorem KeepB.cell {Pb : Nat → Prop} {A B : World} (h : KeepB Pb A B) {b o : Nat} (hb : Pb b) : B.cell? ⟨b, o, none⟩ = A.cell? ⟨b, o, none⟩ := World.cell?_of_block (a := ⟨b, o, none⟩) (h b hb)
theorem KeepB.of_below {Pb : Nat → Prop} {m : Nat} {A B : World} (h : Below m A B) (hp : ∀ b, Pb b → b < m) : KeepB Pb A B := fun b hb => h.block b (hp b hb)
theorem KeepB.drew {Pb : Nat → Prop} {A B : World} (h : KeepB Pb A B) (q : Nat) : KeepB Pb A (B.drewN q) := fun b hb => h b hb
/-- A mesh lies in blocks that stay. -/
structure MeshIn (Pb : Nat → Prop) (mb pb : Nat) (ta : Option Addr) : Prop where
  m : Pb mb
  p : Pb pb
  t : ∀ b, ta = some ⟨b, 0, none⟩ → Pb b
theorem MeshR.keep {w w' : World} {mb pb pc : Nat} {ta : Option Addr} {tc : Nat} {P : List (Int × Int)} {S : List TriM} {Pb : Nat → Prop} (h : MeshR w mb pb pc ta tc P S) (hi : MeshIn Pb mb pb ta) (hk : KeepB Pb w w') : MeshR w' mb pb pc ta tc P S := by
  refine ⟨⟨fun i v hv => (hk.cell hi.m).trans (h.box.c i v hv), fun i v hv => ?_⟩, fun i x y hi' => ?_, fun i T hT => ?_, h.short⟩
  · have e := hk mb hi.m
    exact (World.frozen?_of_block (a := ⟨mb, i, none⟩) e).trans (h.box.f i v hv)
  · obtain ⟨h1, h2⟩ := h.pts i x y hi'
    exact ⟨(hk.cell hi.p).trans h1, (hk.cell hi.p).trans h2⟩
  · obtain ⟨b, h0, h1⟩ := h.tris i T hT
    exact ⟨b, h0, fun j v hj => (hk.cell (hi.t b h0)).trans (h1 j v hj)⟩
/-- A triangle's number, and a place in it. -/
abbrev RB (S : List TriM) := { x : Nat × Nat // x.1 < S.length ∧ x.2 < 3 }
def encR {S : List TriM} (x : RB S) : Array Value := #[.int .i64 (x.1.1 : Int), .int .i64 (x.1.2 : Int)]
/-- The next one, round v to the left. -/
def stepM (S : List TriM) (v t : Int) : Int := match getT S t with
  | none => -1
  | some T => T.n (((placeT T v).toNat + 1) % 3)
/-- Round v: from t on, no more than so many, till the first one comes again. -/
def walkM (S : List TriM) (v first : Int) : Nat → Int → List (Nat × Nat)
  | 0, _ => []
  | n + 1, t => if placeM S t v = -1 then [] else (t.toNat, (placeM S t v).toNat) :: (if stepM S v t = first then [] else walkM S v first n (stepM S v t))
theorem placeM_some {S : List TriM} {t v : Int} (h : placeM S t v ≠ -1) : ∃ (m k : Nat) (T : TriM), t = (m : Int) ∧ placeM S t v = (k : Int) ∧ k < 3 ∧ S[m]? = some T ∧ goneB T = false ∧ placeT T v = (k : Int) ∧ T.v k = v := by
  unfold placeM at h ⊢
  cases hg : getT S t with
  | none => rw [hg] at h; exact absurd rfl h
  | some T =>
    rw [hg] at h
    simp only [] at h ⊢
    cases hgo : goneB T with
    | true => rw [hgo] at h; simp at h
    | false =>
      rw [hgo] at h
      simp only [Bool.false_eq_true, if_false] at h ⊢
      obtain ⟨h0, h1, h2⟩ := getT_some hg
      have hv : ∀ k : Nat, placeT T v = (k : Int) → T.v k = v := by
        intro k hk
        unfold placeT at hk
        split at hk
        · have : k = 0 := by omega
          subst this; simp only [TriM.v]; omega
        · split at hk
          · have : k = 1 := by omega
            subst this; simp only [TriM.v]; omega
          · split at hk
            · have : k = 2 := by omega
              subst this; simp only [TriM.v]; omega
            · omega
      rcases placeT_cases T v with hc | hc | hc | hc
      · exact absurd hc h
      · exact ⟨t.toNat, 0, T, by omega, hc, by omega, h2, hgo, hc, hv 0 hc⟩
      · exact ⟨t.toNat, 1, T, by omega, hc, by omega, h2, hgo, hc, hv 1 hc⟩
      · exact ⟨t.toNat, 2, T, by omega, hc, by omega, h2, hgo, hc, hv 2 hc⟩
end Go.MagM
namespace Go.Proofs.Ytecnnpkpgbbfkaa
open Go.RowKit Go.MagM Go.Shelf
attribute [local go_sem] Oper.semAt_some
set_option maxRecDepth 100000 in
set_option maxHeartbeats 8000000 in
theorem round1_first (n : Nat) (hn : 1 ≤ n) (l Bb Bv Bm : Nat) (Pb : Nat → Prop) {mb pb pc : Nat} {ta : Option Addr} {tc : Nat} {P : List (Int × Int)} {S : List TriM} (v : Int) (J Jx : List (RB S) → World → Prop)
    (hY : ∀ pre x W, J pre W → pre.length < S.length → YieldAt Fence.wide (n - 1) Try.prog l (encR x) W fun e W' =>
      (e = .returned (.bool true) ∧ J (pre ++ [x]) W' ∧ KeepB Pb W W') ∨ (e = .returned (.bool false) ∧ Jx (pre ++ [x]) W'))
    (W : World) (hm : MeshR W mb pb pc ta tc P S) (hin : MeshIn Pb mb pb ta) (hBb : W.cell? ⟨Bb, 0, none⟩ = some (.func (.func 34) #[.pointer (some ⟨mb, 0, none⟩)] #[])) (hBv : W.cell? ⟨Bv, 0, none⟩ = some (.int .i64 v)) (hBm : W.cell? ⟨Bm, 0, none⟩ = some (.pointer (some ⟨mb, 0, none⟩))) (hPv : Pb Bv) (hPm : Pb Bm) (h0 : J [] W) :
    CallsIn Fence.wide n Try.prog 50 #[.func (.yield l) #[] #[], .pointer (some ⟨Bb, 0, none⟩), .pointer (some ⟨Bv, 0, none⟩), .pointer (some ⟨Bm, 0, none⟩)] W fun e W' => (∃ v, e = .returned v) ∧
      ((∃ ys : List (RB S), ys.map (·.1) = walkM S v (firstM S v) S.length (firstM S v) ∧ J ys W') ∨ (∃ pre : List (RB S), pre.map (·.1) <+: walkM S v (firstM S v) S.length (firstM S v) ∧ Jx pre W')) := by
  have hF : ∀ k, Fence.wide.fn k := fun _ => trivial
  have hsh := hm.short.2
  have hfirst := first_any v W hm
  obtain ⟨first, hfi⟩ : ∃ first, firstM S v = first := ⟨_, rfl⟩
  rw [hfi] at hfirst ⊢
  obtain ⟨len, hlen⟩ : ∃ len, S.length = len := ⟨_, rfl⟩
  have b0 := hm.box.c0; have b1 := hm.box.c1
  rw [hlen] at b1 hsh
  have hfin : walkM S v first len first = walkM S v first S.length first := by rw [hlen]
  have HFIN := Lib.hid hfin; clear hfin
  have HM := Lib.hid hm; have HF := Lib.hid hfirst; have HLEN := Lib.hid hlen
  clear hm hfirst hfi hlen
  refine callsIn_of_wp Try.func50 rfl trivial ?_ rfl
  simp only [Try.ntmps50, List.size_toArray, List.length_cons, List.length_nil, Nat.reduceAdd, Nat.reduceSub, Array.replicate_succ, Array.replicate_zero, List.push_toArray, List.append_toArray, List.nil_append, List.cons_append]
  gi_wp2_with fail
  refine (callsIn_wide.2 HF.out).mono ?_
  rintro e w' ⟨rfl, rfl⟩
  gi_wp2
  clear b0 b1
  gi_loopw [6, 7, 8, 18] (fun tv _ _ iv wr => ∃ (i : Nat) (t : Int) (pre : List (RB S)), i ≤ len ∧ iv = .int .i64 i ∧ tv = .int .i64 t ∧ pre.length = i ∧ pre.map (·.1) ++ walkM S v first (len - i) t = walkM S v first len first ∧ J pre wr ∧ KeepB Pb W wr)
    (fun _ _ _ iv _ => len - (intOf iv).toNat)
  case atStart => exact ⟨0, first, [], Nat.zero_le _, rfl, rfl, rfl, by simp, h0, KeepB.refl _ _⟩
  case round =>
    obtain ⟨i, t, pre, hi, rfl, rfl, hpl, hrest, hJs, hnx⟩ := hrel
    have HR := Lib.hid hrest; have HPL := Lib.hid hpl; clear hrest hpl
    by_cases hlt : i < len
    · have hcm : wr.cell? ⟨Bm, 0, none⟩ = some (.pointer (some ⟨mb, 0, none⟩)) := (hnx.cell hPm).trans hBm
      have hcv : wr.cell? ⟨Bv, 0, none⟩ = some (.int .i64 v) := (hnx.cell hPv).trans hBv
      have hm_0 := HM.out.keep hin hnx
      have hpl := place_any t v wr hm_0
      obtain ⟨p, hp⟩ : ∃ p, placeM S t v = p := ⟨_, rfl⟩
      rw [hp] at hpl
      have HP := Lib.hid hp; have HPC := Lib.hid hpl; clear hp hpl
      by_cases hpm : p = -1
      · have hw : walkM S v first (len - i) t = [] := by
          rw [show len - i = (len - i - 1) + 1 by omega, walkM, if_pos (by rw [HP.out]; exact hpm)]
        subst hpm
        gi_wp2_with fail
        refine (callsIn_wide.2 HPC.out).mono ?_
        rintro e w' ⟨rfl, rfl⟩
        gi_wp2
        refine bodyPost_ret (results_none rfl _ _ _) rfl ?_
        refine ⟨⟨_, rfl⟩, .inl ⟨pre, ?_, hJs⟩⟩
        rw [← HFIN.out, ← HR.out, hw, List.append_nil]
      · obtain ⟨m, k, T, rfl, hk, hk3, hT, hgo, hpt, hvk⟩ := placeM_some (S := S) (t := t) (v := v) (by rw [HP.out]; exact hpm)
        obtain rfl : p = (k : Int) := by rw [← HP.out]; exact hk
        have hml := (List.getElem?_eq_some_iff.1 hT).1
        rw [HLEN.out] at hml
        obtain ⟨tb, hta, -, ht9⟩ := hm_0.tris.get hT
        subst hta
        obtain ⟨k1, hk1⟩ : ∃ k1, (k + 1) % 3 = k1 := ⟨_, rfl⟩
        have hk13 : k1 < 3 := by omega
        obtain ⟨nx, hnxt⟩ : ∃ nx, stepM S v (m : Int) = nx := ⟨_, rfl⟩
        have hnn : T.n k1 = nx := by
          rw [← hnxt]; unfold stepM; rw [getT_nat, hT]; simp only []; rw [hpt, Int.toNat_natCast, hk1]
        have hcn := ht9.n hk13
        rw [hnn] at hcn
        have hmod : ((k : Int) + 1).tmod 3 = (k1 : Int) := by have := mod_one k 3; rw [hk1] at this; exact this
        have hwk : IntKind.i64.wrap ((k : Int) + 1) = (k : Int) + 1 := by rw [IntKind.wrap_i64]; omega
        have hp0 : ((k : Int) == -1) = false := by simp
        have hb1 : (0 : Int) ≤ (m : Int) := by omega
        have hb2 : (m : Int) < (len : Int) := by omega
        have hb3 : (0 : Int) ≤ (k1 : Int) := by omega
        have hb4 : (k1 : Int) < 3 := by omega
        have hwalk : walkM S v first (len - i) (m : Int) = (m, k) :: (if nx = first then [] else walkM S v first (len - (i + 1)) nx) := by
          rw [show len - i = (len - (i + 1)) + 1 by omega, walkM, if_neg (by rw [hk]; omega), hnxt, hk, Int.toNat_natCast, Int.toNat_natCast]
        obtain ⟨x, hx⟩ : ∃ x : RB S, x.1 = (m, k) := ⟨⟨(m, k), by rw [HLEN.out]; exact hml, hk3⟩, rfl⟩
        have c0 := hm_0.box.c0; have c1 := hm_0.box.c1
        rw [HLEN.out] at c1
        obtain ⟨fn, tmps, assign, body, hy, hR⟩ := hY pre x wr hJs (by rw [HPL.out, HLEN.out]; exact hlt)
        unfold encR at hy
        rw [hx] at hy
        dsimp only at hy
        have HW := Lib.hid hwalk; have HX := Lib.hid hx; have HN := Lib.hid hnxt
        clear hwalk hx hnxt hk hT hgo hpt hvk ht9 hnn hpm hk1 hm_0
        gi_wp2_with fail
        refine (callsIn_wide.2 HPC.out).mono ?_
        rintro e w' ⟨rfl, rfl⟩
        gi_wp2
        refine hR.mono ?_
        rintro e W3 (⟨rfl, hJ3, hk3'⟩ | ⟨rfl, hJx3⟩)
        · by_cases hnf : nx = first
          · have hnd : (nx == first) = true := by simp [hnf]
            have HNF := Lib.hid hnf; clear hnf
            gi_wp2
            refine bodyPost_ret (results_none rfl _ _ _) rfl ?_
            refine ⟨⟨_, rfl⟩, .inl ⟨pre ++ [x], ?_, hJ3⟩⟩
            rw [← HFIN.out, ← HR.out, HW.out, if_pos HNF.out, List.map_append, List.map_cons, List.map_nil, HX.out]
          · have hnd : (nx == first) = false := by simp [hnf]
            have HNF := Lib.hid hnf; clear hnf
            gi_wp2
            go_roundw
            case rel => exact ⟨i + 1, nx, pre ++ [x], by omega, by go_num, rfl, by rw [List.length_append, HPL.out]; rfl, by rw [← HR.out, HW.out, if_neg HNF.out, List.map_append, List.map_cons, List.map_nil, HX.out, List.append_assoc]; rfl, hJ3, hnx.trans hk3'⟩
            case measure => simp [intOf]; omega
        · gi_wp2
          refine bodyPost_ret (results_none rfl _ _ _) rfl ?_
          refine ⟨⟨_, rfl⟩, .inr ⟨pre ++ [x], ?_, hJx3⟩⟩
          rw [← HFIN.out, ← HR.out, HW.out, List.map_append, List.map_cons, List.map_nil, HX.out]
          exact ⟨_, by rw [List.append_assoc]; rfl⟩
    · have hw : walkM S v first (len - i) t = [] := by rw [show len - i = 0 by omega]; rfl
      gi_wp2
      go_end0
      refine ⟨⟨_, rfl⟩, .inl ⟨pre, ?_, hJs⟩⟩
      rw [← HFIN.out, ← HR.out, hw, List.append_nil]
set_option maxRecDepth 100000 in
set_option maxHeartbeats 8000000 in
theorem round1_at (n : Nat) (hn : 1 ≤ n) (l Bb Bv Bm : Nat) (Pb : Nat → Prop) {mb pb pc : Nat} {ta : Option Addr} {tc : Nat} {P : List (Int × Int)} {S : List TriM} (v : Int) (J Jx : List (RB S) → World → Prop)
    (hY : ∀ pre x W, J pre W → pre.length < S.length → YieldAt Fence.wide (n - 1) Try.prog l (encR x) W fun e W' =>
      (e = .returned (.bool true) ∧ J (pre ++ [x]) W' ∧ KeepB Pb W W') ∨ (e = .returned (.bool false) ∧ Jx (pre ++ [x]) W'))
    (W : World) (hm : MeshR W mb pb pc ta tc P S) (hin : MeshIn Pb mb pb ta) (hBb : W.cell? ⟨Bb, 0, none⟩ = some (.func (.func 15) #[.pointer (some ⟨mb, 0, none⟩)] #[])) (hBv : W.cell? ⟨Bv, 0, none⟩ = some (.int .i64 v)) (hBm : W.cell? ⟨Bm, 0, none⟩ = some (.pointer (some ⟨mb, 0, none⟩))) (hPv : Pb Bv) (hPm : Pb Bm) (h0 : J [] W) :
    CallsIn Fence.wide n Try.prog 50 #[.func (.yield l) #[] #[], .pointer (some ⟨Bb, 0, none⟩), .pointer (some ⟨Bv, 0, none⟩), .pointer (some ⟨Bm, 0, none⟩)] W fun e W' => (∃ v, e = .returned v) ∧
      ((∃ ys : List (RB S), ys.map (·.1) = walkM S v (atM S v) S.length (atM S v) ∧ J ys W') ∨ (∃ pre : List (RB S), pre.map (·.1) <+: walkM S v (atM S v) S.length (atM S v) ∧ Jx pre W')) := by
  have hF : ∀ k, Fence.wide.fn k := fun _ => trivial
  have hsh := hm.short.2
  have hfirst := At_any v W hm
  obtain ⟨first, hfi⟩ : ∃ first, atM S v = first := ⟨_, rfl⟩
  rw [hfi] at hfirst ⊢
  obtain ⟨len, hlen⟩ : ∃ len, S.length = len := ⟨_, rfl⟩
  have b0 := hm.box.c0; have b1 := hm.box.c1
  rw [hlen] at b1 hsh
  have hfin : walkM S v first len first = walkM S v first S.length first := by rw [hlen]
  have HFIN := Lib.hid hfin; clear hfin
  have HM := Lib.hid hm; have HF := Lib.hid hfirst; have HLEN := Lib.hid hlen
  clear hm hfirst hfi hlen
  refine callsIn_of_wp Try.func50 rfl trivial ?_ rfl
  simp only [Try.ntmps50, List.size_toArray, List.length_cons, List.length_nil, Nat.reduceAdd, Nat.reduceSub, Array.replicate_succ, Array.replicate_zero, List.push_toArray, List.append_toArray, List.nil_append, List.cons_append]
  gi_wp2_with fail
  refine (callsIn_wide.2 HF.out).mono ?_
  rintro e w' ⟨rfl, rfl⟩
  gi_wp2
  clear b0 b1
  gi_loopw [6, 7, 8, 18] (fun tv _ _ iv wr => ∃ (i : Nat) (t : Int) (pre : List (RB S)), i ≤ len ∧ iv = .int .i64 i ∧ tv = .int .i64 t ∧ pre.length = i ∧ pre.map (·.1) ++ walkM S v first (len - i) t = walkM S v first len first ∧ J pre wr ∧ KeepB Pb W wr)
    (fun _ _ _ iv _ => len - (intOf iv).toNat)
  case atStart => exact ⟨0, first, [], Nat.zero_le _, rfl, rfl, rfl, by simp, h0, KeepB.refl _ _⟩
  case round =>
    obtain ⟨i, t, pre, hi, rfl, rfl, hpl, hrest, hJs, hnx⟩ := hrel
    have HR := Lib.hid hrest; have HPL := Lib.hid hpl; clear hrest hpl
    by_cases hlt : i < len
    · have hcm : wr.cell? ⟨Bm, 0, none⟩ = some (.pointer (some ⟨mb, 0, none⟩)) := (hnx.cell hPm).trans hBm
      have hcv : wr.cell? ⟨Bv, 0, none⟩ = some (.int .i64 v) := (hnx.cell hPv).trans hBv
      have hm_0 := HM.out.keep hin hnx
      have hpl := place_any t v wr hm_0
      obtain ⟨p, hp⟩ : ∃ p, placeM S t v = p := ⟨_, rfl⟩
      rw [hp] at hpl
      have HP := Lib.hid hp; have HPC := Lib.hid hpl; clear hp hpl
      by_cases hpm : p = -1
      · have hw : walkM S v first (len - i) t = [] := by
          rw [show len - i = (len - i - 1) + 1 by omega, walkM, if_pos (by rw [HP.out]; exact hpm)]
        subst hpm
        gi_wp2_with fail
        refine (callsIn_wide.2 HPC.out).mono ?_
        rintro e w' ⟨rfl, rfl⟩
        gi_wp2
        refine bodyPost_ret (results_none rfl _ _ _) rfl ?_
        refine ⟨⟨_, rfl⟩, .inl ⟨pre, ?_, hJs⟩⟩
        rw [← HFIN.out, ← HR.out, hw, List.append_nil]
      · obtain ⟨m, k, T, rfl, hk, hk3, hT, hgo, hpt, hvk⟩ := placeM_some (S := S) (t := t) (v := v) (by rw [HP.out]; exact hpm)
        obtain rfl : p = (k : Int) := by rw [← HP.out]; exact hk
        have hml := (List.getElem?_eq_some_iff.1 hT).1
        rw [HLEN.out] at hml
        obtain ⟨tb, hta, -, ht9⟩ := hm_0.tris.get hT
        subst hta
        obtain ⟨k1, hk1⟩ : ∃ k1, (k + 1) % 3 = k1 := ⟨_, rfl⟩
        have hk13 : k1 < 3 := by omega
        obtain ⟨nx, hnxt⟩ : ∃ nx, stepM S v (m : Int) = nx := ⟨_, rfl⟩
        have hnn : T.n k1 = nx := by
          rw [← hnxt]; unfold stepM; rw [getT_nat, hT]; simp only []; rw [hpt, Int.toNat_natCast, hk1]
        have hcn := ht9.n hk13
        rw [hnn] at hcn
        have hmod : ((k : Int) + 1).tmod 3 = (k1 : Int) := by have := mod_one k 3; rw [hk1] at this; exact this
        have hwk : IntKind.i64.wrap ((k : Int) + 1) = (k : Int) + 1 := by rw [IntKind.wrap_i64]; omega
        have hp0 : ((k : Int) == -1) = false := by simp
        have hb1 : (0 : Int) ≤ (m : Int) := by omega
        have hb2 : (m : Int) < (len : Int) := by omega
        have hb3 : (0 : Int) ≤ (k1 : Int) := by omega
        have hb4 : (k1 : Int) < 3 := by omega
        have hwalk : walkM S v first (len - i) (m : Int) = (m, k) :: (if nx = first then [] else walkM S v first (len - (i + 1)) nx) := by
          rw [show len - i = (len - (i + 1)) + 1 by omega, walkM, if_neg (by rw [hk]; omega), hnxt, hk, Int.toNat_natCast, Int.toNat_natCast]
        obtain ⟨x, hx⟩ : ∃ x : RB S, x.1 = (m, k) := ⟨⟨(m, k), by rw [HLEN.out]; exact hml, hk3⟩, rfl⟩
        have c0 := hm_0.box.c0; have c1 := hm_0.box.c1
        rw [HLEN.out] at c1
        obtain ⟨fn, tmps, assign, body, hy, hR⟩ := hY pre x wr hJs (by rw [HPL.out, HLEN.out]; exact hlt)
        unfold encR at hy
        rw [hx] at hy
        dsimp only at hy
        have HW := Lib.hid hwalk; have HX := Lib.hid hx; have HN := Lib.hid hnxt
        clear hwalk hx hnxt hk hT hgo hpt hvk ht9 hnn hpm hk1 hm_0
        gi_wp2_with fail
        refine (callsIn_wide.2 HPC.out).mono ?_
        rintro e w' ⟨rfl, rfl⟩
        gi_wp2
        refine hR.mono ?_
        rintro e W3 (⟨rfl, hJ3, hk3'⟩ | ⟨rfl, hJx3⟩)
        · by_cases hnf : nx = first
          · have hnd : (nx == first) = true := by simp [hnf]
            have HNF := Lib.hid hnf; clear hnf
            gi_wp2
            refine bodyPost_ret (results_none rfl _ _ _) rfl ?_
            refine ⟨⟨_, rfl⟩, .inl ⟨pre ++ [x], ?_, hJ3⟩⟩
            rw [← HFIN.out, ← HR.out, HW.out, if_pos HNF.out, List.map_append, List.map_cons, List.map_nil, HX.out]
          · have hnd : (nx == first) = false := by simp [hnf]
            have HNF := Lib.hid hnf; clear hnf
            gi_wp2
            go_roundw
            case rel => exact ⟨i + 1, nx, pre ++ [x], by omega, by go_num, rfl, by rw [List.length_append, HPL.out]; rfl, by rw [← HR.out, HW.out, if_neg HNF.out, List.map_append, List.map_cons, List.map_nil, HX.out, List.append_assoc]; rfl, hJ3, hnx.trans hk3'⟩
            case measure => simp [intOf]; omega
        · gi_wp2
          refine bodyPost_ret (results_none rfl _ _ _) rfl ?_
          refine ⟨⟨_, rfl⟩, .inr ⟨pre ++ [x], ?_, hJx3⟩⟩
          rw [← HFIN.out, ← HR.out, HW.out, List.map_append, List.map_cons, List.map_nil, HX.out]
          exact ⟨_, by rw [List.append_assoc]; rfl⟩
    · have hw : walkM S v first (len - i) t = [] := by rw [show len - i = 0 by omega]; rfl
      gi_wp2
      go_end0
      refine ⟨⟨_, rfl⟩, .inl ⟨pre, ?_, hJs⟩⟩
      rw [← HFIN.out, ← HR.out, hw, List.append_nil]
end Go.Proofs.Ytecnnpkpgbbfkaa
/- slices.Reverse, Min over ints. -/
namespace Go.MagM
open Go.RowKit
theorem Turned.setCell {w w' : World} {b : Nat} (h : Turned w w' b) (i : Nat) (v : Value) : Turned w (w'.setCell ⟨b, i, none⟩ v) b := by
  refine ⟨h.os, h.tape, h.output, by simp [World.setCell, h.size], fun k hk => ?_⟩
  rw [← h.block k hk]
  simp only [World.setCell, Array.getElem?_modify]
  rw [if_neg (Ne.symm hk)]
theorem Turned.drew {w w' : World} {b : Nat} (h : Turned w w' b) : Turned w w'.drew b := ⟨h.os, h.tape, h.output, h.size, h.block⟩
/-- A row after k swaps. -/
def Swapped (vs us : List Value) (k : Nat) : Prop := us.length = vs.length ∧ ∀ x, x < vs.length → us[x]? = if x < k ∨ vs.length - k ≤ x then vs[vs.length - 1 - x]? else vs[x]?
theorem Swapped.start (vs : List Value) : Swapped vs vs 0 := ⟨rfl, fun x hx => by rw [if_neg (by omega)]⟩
theorem Swapped.next {vs us : List Value} {k : Nat} (h : Swapped vs us k) (hk : 2 * k + 1 < vs.length) {a b : Value} (ha : vs[k]? = some a) (hb : vs[vs.length - 1 - k]? = some b) : Swapped vs ((us.set k b).set (vs.length - 1 - k) a) (k + 1) := by
  refine ⟨by rw [List.length_set, List.length_set]; exact h.1, fun x hx => ?_⟩
  rw [List.getElem?_set, List.length_set, List.getElem?_set, h.1]
  by_cases h1 : vs.length - 1 - k = x
  · subst h1
    rw [if_pos rfl, if_pos (by omega), if_pos (by omega)]
    rw [show vs.length - 1 - (vs.length - 1 - k) = k by omega]; exact ha.symm
  · rw [if_neg h1]
    by_cases h2 : k = x
    · subst h2
      rw [if_pos rfl, if_pos (by omega), if_pos (by omega)]; exact hb.symm
    · rw [if_neg h2, h.2 x hx]
      by_cases h3 : x < k ∨ vs.length - k ≤ x
      · rw [if_pos h3, if_pos (by omega)]
      · rw [if_neg h3, if_neg (by omega)]
theorem Swapped.done {vs us : List Value} {k : Nat} (h : Swapped vs us k) (hk : vs.length ≤ 2 * k + 1) : us = vs.reverse := by
  refine List.ext_getElem? fun x => ?_
  by_cases hx : x < vs.length
  · rw [h.2 x hx, List.getElem?_reverse hx]
    by_cases h3 : x < k ∨ vs.length - k ≤ x
    · rw [if_pos h3]
    · rw [if_neg h3, show vs.length - 1 - x = x by omega]
  · rw [List.getElem?_eq_none (by rw [h.1]; omega), List.getElem?_eq_none (by simp; omega)]
end Go.MagM
namespace Go.Proofs.Ytecnnpkpgbbfkaa
open Go.RowKit Go.MagM
set_option maxRecDepth 100000 in
set_option maxHeartbeats 8000000 in
theorem reverse_any (g n c : Nat) (zs : List Int) (w : World) (hn : zs.length = n) (h0 : 0 < n) (hbig : n ≤ 1000000) (h : Box w g (zs.map fun z => .int .i64 z)) :
    Calls Try.prog 42 #[.slice (some ⟨g, 0, none⟩) n c] w fun e w' => e = .returned (.tuple #[]) ∧ Box w' g (zs.reverse.map fun z => .int .i64 z) ∧ Turned w w' g := by
  obtain ⟨vs, hvs⟩ : ∃ vs : List Value, (zs.map fun z => Value.int .i64 z) = vs := ⟨_, rfl⟩
  have hvl : vs.length = n := by rw [← hvs, List.length_map, hn]
  have hvr : (zs.reverse.map fun z => Value.int .i64 z) = vs.reverse := by rw [← hvs, List.map_reverse]
  rw [hvr]
  rw [hvs] at h
  have hat : ∀ x, x < n → ∃ z, vs[x]? = some (.int .i64 z) := fun x hx => by
    obtain ⟨z, hz⟩ : ∃ z, zs[x]? = some z := ⟨_, List.getElem?_eq_getElem (by omega)⟩
    exact ⟨z, by rw [← hvs, List.getElem?_map, hz]; rfl⟩
  have HB := Lib.hid h; have HVL := Lib.hid hvl; have HAT := Lib.hid hat
  clear hvs hvl hvr h hat hn
  go_enter Try.func42, Try.ntmps42
  go_wp2
  go_loopw [2, 3] (fun iv jv wr => ∃ (k : Nat) (us : List Value), 2 * k ≤ n + 1 ∧ iv = .int .i64 k ∧ jv = .int .i64 ((n : Int) - 1 - (k : Int)) ∧ Swapped vs us k ∧ Box wr g us ∧ Turned w wr g) (fun iv _ _ => n - (intOf iv).toNat)
  case atStart => exact ⟨0, vs, by omega, rfl, by simp, Swapped.start _, HB.out, Turned.refl _ _⟩
  case round =>
    obtain ⟨k, us, hk, rfl, rfl, hsw, hbox, htu⟩ := hrel
    have HSW := Lib.hid hsw; have HBX := Lib.hid hbox; have HTU := Lib.hid htu
    clear hsw hbox htu
    obtain ⟨jz, hjz⟩ : ∃ jz : Int, (n : Int) - 1 - (k : Int) = jz := ⟨_, rfl⟩
    rw [hjz]
    by_cases hlt : 2 * k + 1 < n
    · obtain ⟨j, hj⟩ : ∃ j, n - 1 - k = j := ⟨_, rfl⟩
      obtain rfl : jz = (j : Int) := by omega
      have hkj : (k : Int) < (j : Int) := by omega
      obtain ⟨a, ha⟩ := HAT.out k (by omega)
      obtain ⟨b, hb⟩ := HAT.out j (by omega)
      have hua : us[k]? = some (.int .i64 a) := by rw [(HSW.out).2 k (by rw [HVL.out]; omega), if_neg (by rw [HVL.out]; omega)]; exact ha
      have hub : us[j]? = some (.int .i64 b) := by rw [(HSW.out).2 j (by rw [HVL.out]; omega), if_neg (by rw [HVL.out]; omega)]; exact hb
      have hsn := (HSW.out).next (by rw [HVL.out]; omega) ha (by rw [HVL.out, hj]; exact hb)
      rw [HVL.out, hj] at hsn
      have HSN := Lib.hid hsn
      have hd := (HBX.out).drew
      have ca := hd.c k _ hua; have fa := hd.f k _ hua
      have cb := hd.c j _ hub; have fb := hd.f j _ hub
      have hset := hd.set k (.int .i64 b)
      have hset2 := hset.set j (.int .i64 a)
      have hujs : (us.set k (.int .i64 b))[j]? = some (.int .i64 b) := by rw [List.getElem?_set, if_neg (by omega)]; exact hub
      have cb2 := hset.c j _ hujs; have fb2 := hset.f j _ hujs
      have HS2 := Lib.hid hset2
      have HTD := Lib.hid ((HTU.out).drew)
      have b1 : (0 : Int) ≤ (k : Int) := by omega
      have b2 : (k : Int) < (n : Int) := by omega
      have b3 : (0 : Int) ≤ (j : Int) := by omega
      have b4 : (j : Int) < (n : Int) := by omega
      clear hua hub hsn hd hset hset2 hujs ha hb HSW HBX HTU
      go_wp2
      obtain ⟨SSq, hSSq⟩ : ∃ S : Array Bool → World → Prop, ∀ l w', S l w' ↔ ((l.getD 13 true = false → w'.cell? ⟨g, k, none⟩ = some (.int .i64 a)) ∧ (l.getD 13 true = false → w'.cell? ⟨g, j, none⟩ = some (.int .i64 b))) := ⟨_, fun _ _ => Iff.rfl⟩
      refine wp_region_noPanic ?_
      refine wp_region_G SSq 16 #[false, false, false, false, false, false, false, false, false, false, false, false, false, false, false, false] (by kernel_rfl) (by kernel_rfl) (by kernel_rfl) ((hSSq _ _).2 ⟨(fun _ => ca), (fun _ => cb)⟩) (fun hCl hHeld => ?_)
      generalize wr.drew = w2 at *
      refine reg_takeG 0 ?_ ?_ ?_ (by kernel_rfl) (by kernel_rfl) (by kernel_rfl) (fun _ _ _ h => h) ?_ ?_ ?_ hCl hHeld ?_
      rotate_left 2
      · simp only [List.getElem?_toArray, List.getElem?_cons_zero]; exact rfl
      · intro l w'; rw [hSSq, hSSq]; rw [getD_set_ne (i := 0) (j := 13) true (by decide)]
      · rfl
      · intro w' hA; clear hA; go_simp; try with_reducible rfl
      clear hCl hHeld
      intro hCl hHeld
      simp only [List.setIfInBounds_toArray, List.set_cons_zero] at hCl hHeld
      try simp only [Act.put]
      try simp only [List.setIfInBounds_toArray, List.set_cons_zero, List.set_cons_succ]
      refine reg_takeG 1 ?_ ?_ ?_ (by kernel_rfl) (by kernel_rfl) (by kernel_rfl) (fun _ _ _ h => h) ?_ ?_ ?_ hCl hHeld ?_
      rotate_left 2
      · simp only [List.getElem?_toArray, List.getElem?_cons_succ, List.getElem?_cons_zero]; exact rfl
      · intro l w'; rw [hSSq, hSSq]; rw [getD_set_ne (i := 1) (j := 13) true (by decide)]
      · rfl
      · intro w' hA; clear hA; go_simp; try with_reducible rfl
      clear hCl hHeld
      intro hCl hHeld
      simp only [List.setIfInBounds_toArray, List.set_cons_zero, List.set_cons_succ] at hCl hHeld
      try simp only [Act.put]
      try simp only [List.setIfInBounds_toArray, List.set_cons_zero, List.set_cons_succ]
      refine reg_takeG 2 ?_ ?_ ?_ (by kernel_rfl) (by kernel_rfl) (by kernel_rfl) (fun _ _ _ h => h) ?_ ?_ ?_ hCl hHeld ?_
      rotate_left 2
      · simp only [List.getElem?_toArray, List.getElem?_cons_succ, List.getElem?_cons_zero]; exact rfl
      · intro l w'; rw [hSSq, hSSq]; rw [getD_set_ne (i := 2) (j := 13) true (by decide)]
      · rfl
      · intro w' hA; clear hA; go_simp; try with_reducible rfl
      clear hCl hHeld
      intro hCl hHeld
      simp only [List.setIfInBounds_toArray, List.set_cons_zero, List.set_cons_succ] at hCl hHeld
      try simp only [Act.put]
      try simp only [List.setIfInBounds_toArray, List.set_cons_zero, List.set_cons_succ]
      refine reg_takeG 3 ?_ ?_ ?_ (by kernel_rfl) (by kernel_rfl) (by kernel_rfl) (fun _ _ _ h => h) ?_ ?_ ?_ hCl hHeld ?_
      rotate_left 2
      · simp only [List.getElem?_toArray, List.getElem?_cons_succ, List.getElem?_cons_zero]; exact rfl
      · intro l w'; rw [hSSq, hSSq]; rw [getD_set_ne (i := 3) (j := 13) true (by decide)]
      · rfl
      · intro w' hA; clear hA; go_simp; try with_reducible rfl
      clear hCl hHeld
      intro hCl hHeld
      simp only [List.setIfInBounds_toArray, List.set_cons_zero, List.set_cons_succ] at hCl hHeld
      try simp only [Act.put]
      try simp only [List.setIfInBounds_toArray, List.set_cons_zero, List.set_cons_succ]
      refine reg_takeG 4 ?_ ?_ ?_ (by kernel_rfl) (by kernel_rfl) (by kernel_rfl) (fun _ _ _ h => h) ?_ ?_ ?_ hCl hHeld ?_
      rotate_left 2
      · simp only [List.getElem?_toArray, List.getElem?_cons_succ, List.getElem?_cons_zero]; exact rfl
      · intro l w'; rw [hSSq, hSSq]; rw [getD_set_ne (i := 4) (j := 13) true (by decide)]
      · rfl
      · intro w' hA; clear hA; go_simp; try with_reducible rfl
      clear hCl hHeld
      intro hCl hHeld
      simp only [List.setIfInBounds_toArray, List.set_cons_zero, List.set_cons_succ] at hCl hHeld
      try simp only [Act.put]
      try simp only [List.setIfInBounds_toArray, List.set_cons_zero, List.set_cons_succ]
      refine reg_takeG 5 ?_ ?_ ?_ (by kernel_rfl) (by kernel_rfl) (by kernel_rfl) (fun _ _ _ h => h) ?_ ?_ ?_ hCl hHeld ?_
      rotate_left 2
      · simp only [List.getElem?_toArray, List.getElem?_cons_succ, List.getElem?_cons_zero]; exact rfl
      · intro l w'; rw [hSSq, hSSq]; rw [getD_set_ne (i := 5) (j := 13) true (by decide)]
      · rfl
      · intro w' hA; clear hA; go_simp; try with_reducible rfl
      clear hCl hHeld
      intro hCl hHeld
      simp only [List.setIfInBounds_toArray, List.set_cons_zero, List.set_cons_succ] at hCl hHeld
      try simp only [Act.put]
      try simp only [List.setIfInBounds_toArray, List.set_cons_zero, List.set_cons_succ]
      refine reg_takeG 6 ?_ ?_ ?_ (by kernel_rfl) (by kernel_rfl) (by kernel_rfl) (fun _ _ _ h => h) ?_ ?_ ?_ hCl hHeld ?_
      rotate_left 2
      · simp only [List.getElem?_toArray, List.getElem?_cons_succ, List.getElem?_cons_zero]; exact rfl
      · intro l w'; rw [hSSq, hSSq]; rw [getD_set_ne (i := 6) (j := 13) true (by decide)]
      · rfl
      · intro w' hA; clear hA; go_simp; try with_reducible rfl
      clear hCl hHeld
      intro hCl hHeld
      simp only [List.setIfInBounds_toArray, List.set_cons_zero, List.set_cons_succ] at hCl hHeld
      try simp only [Act.put]
      try simp only [List.setIfInBounds_toArray, List.set_cons_zero, List.set_cons_succ]
      refine reg_takeG 7 ?_ ?_ ?_ (by kernel_rfl) (by kernel_rfl) (by kernel_rfl) (fun _ _ _ h => h) ?_ ?_ ?_ hCl hHeld ?_
      rotate_left 2
      · simp only [List.getElem?_toArray, List.getElem?_cons_succ, List.getElem?_cons_zero]; exact rfl
      · intro l w'; rw [hSSq, hSSq]; rw [getD_set_ne (i := 7) (j := 13) true (by decide)]
      · rfl
      · intro w' hA; obtain ⟨l, hl, hi, hSl⟩ := hA; have hSl := (hSSq _ _).1 hSl; obtain ⟨hy0, hy1⟩ := hSl; have hz0 := hy0 (hl.not (t := 13) (by kernel_rfl) hi); have hz1 := hy1 (hl.not (t := 13) (by kernel_rfl) hi); go_simp; try with_reducible rfl
      clear hCl hHeld
      intro hCl hHeld
      simp only [List.setIfInBounds_toArray, List.set_cons_zero, List.set_cons_succ] at hCl hHeld
      try simp only [Act.put]
      try simp only [List.setIfInBounds_toArray, List.set_cons_zero, List.set_cons_succ]
      refine reg_takeG 8 ?_ ?_ ?_ (by kernel_rfl) (by kernel_rfl) (by kernel_rfl) (fun _ _ _ h => h) ?_ ?_ ?_ hCl hHeld ?_
      rotate_left 2
      · simp only [List.getElem?_toArray, List.getElem?_cons_succ, List.getElem?_cons_zero]; exact rfl
      · intro l w'; rw [hSSq, hSSq]; rw [getD_set_ne (i := 8) (j := 13) true (by decide)]
      · rfl
      · intro w' hA; clear hA; go_simp; try with_reducible rfl
      clear hCl hHeld
      intro hCl hHeld
      simp only [List.setIfInBounds_toArray, List.set_cons_zero, List.set_cons_succ] at hCl hHeld
      try simp only [Act.put]
      try simp only [List.setIfInBounds_toArray, List.set_cons_zero, List.set_cons_succ]
      refine reg_takeG 9 ?_ ?_ ?_ (by kernel_rfl) (by kernel_rfl) (by kernel_rfl) (fun _ _ _ h => h) ?_ ?_ ?_ hCl hHeld ?_
      rotate_left 2
      · simp only [List.getElem?_toArray, List.getElem?_cons_succ, List.getElem?_cons_zero]; exact rfl
      · intro l w'; rw [hSSq, hSSq]; rw [getD_set_ne (i := 9) (j := 13) true (by decide)]
      · rfl
      · intro w' hA; clear hA; go_simp; try with_reducible rfl
      clear hCl hHeld
      intro hCl hHeld
      simp only [List.setIfInBounds_toArray, List.set_cons_zero, List.set_cons_succ] at hCl hHeld
      try simp only [Act.put]
      try simp only [List.setIfInBounds_toArray, List.set_cons_zero, List.set_cons_succ]
      refine reg_takeG 10 ?_ ?_ ?_ (by kernel_rfl) (by kernel_rfl) (by kernel_rfl) (fun _ _ _ h => h) ?_ ?_ ?_ hCl hHeld ?_
      rotate_left 2
      · simp only [List.getElem?_toArray, List.getElem?_cons_succ, List.getElem?_cons_zero]; exact rfl
      · intro l w'; rw [hSSq, hSSq]; rw [getD_set_ne (i := 10) (j := 13) true (by decide)]
      · rfl
      · intro w' hA; clear hA; go_simp; try with_reducible rfl
      clear hCl hHeld
      intro hCl hHeld
      simp only [List.setIfInBounds_toArray, List.set_cons_zero, List.set_cons_succ] at hCl hHeld
      try simp only [Act.put]
      try simp only [List.setIfInBounds_toArray, List.set_cons_zero, List.set_cons_succ]
      refine reg_takeG 11 ?_ ?_ ?_ (by kernel_rfl) (by kernel_rfl) (by kernel_rfl) (fun _ _ _ h => h) ?_ ?_ ?_ hCl hHeld ?_
      rotate_left 2
      · simp only [List.getElem?_toArray, List.getElem?_cons_succ, List.getElem?_cons_zero]; exact rfl
      · intro l w'; rw [hSSq, hSSq]; rw [getD_set_ne (i := 11) (j := 13) true (by decide)]
      · rfl
      · intro w' hA; obtain ⟨l, hl, hi, hSl⟩ := hA; have hSl := (hSSq _ _).1 hSl; obtain ⟨hy0, hy1⟩ := hSl; have hz0 := hy0 (hl.not (t := 13) (by kernel_rfl) hi); have hz1 := hy1 (hl.not (t := 13) (by kernel_rfl) hi); go_simp; try with_reducible rfl
      clear hCl hHeld
      intro hCl hHeld
      simp only [List.setIfInBounds_toArray, List.set_cons_zero, List.set_cons_succ] at hCl hHeld
      try simp only [Act.put]
      try simp only [List.setIfInBounds_toArray, List.set_cons_zero, List.set_cons_succ]
      refine reg_takeG 12 ?_ ?_ ?_ (by kernel_rfl) (by kernel_rfl) (by kernel_rfl) (fun _ _ _ h => h) ?_ ?_ ?_ hCl hHeld ?_
      rotate_left 2
      · simp only [List.getElem?_toArray, List.getElem?_cons_succ, List.getElem?_cons_zero]; exact rfl
      · intro l w'; rw [hSSq, hSSq]; rw [getD_set_ne (i := 12) (j := 13) true (by decide)]
      · rfl
      · intro w' hA; clear hA; go_simp; try with_reducible rfl
      clear hCl hHeld
      intro hCl hHeld
      simp only [List.setIfInBounds_toArray, List.set_cons_zero, List.set_cons_succ] at hCl hHeld
      try simp only [Act.put]
      try simp only [List.setIfInBounds_toArray, List.set_cons_zero, List.set_cons_succ]
      clear hCl hHeld
      refine reg_callG 13 ?_ (by kernel_rfl) ?_ (fun K hK => ?_)
      rotate_left 1
      · simp only [List.getElem?_toArray, List.getElem?_cons_succ, List.getElem?_cons_zero]; exact rfl
      go_simp
      refine hK.out _ _ ((hSSq _ _).2 ⟨(fun h => absurd h (by decide)), (fun h => absurd h (by decide))⟩) ?_
      clear hK K
      try simp only [Act.put]
      try simp only [List.setIfInBounds_toArray, List.set_cons_zero, List.set_cons_succ]
      refine reg_callG 14 ?_ (by kernel_rfl) ?_ (fun K hK => ?_)
      rotate_left 1
      · simp only [List.getElem?_toArray, List.getElem?_cons_succ, List.getElem?_cons_zero]; exact rfl
      go_simp
      refine hK.out _ _ ((hSSq _ _).2 ⟨(fun h => absurd h (by decide)), (fun h => absurd h (by decide))⟩) ?_
      clear hK K
      try simp only [Act.put]
      try simp only [List.setIfInBounds_toArray, List.set_cons_zero, List.set_cons_succ]
      refine reg_callG 15 ?_ (by kernel_rfl) ?_ (fun K hK => ?_)
      rotate_left 1
      · simp only [List.getElem?_toArray, List.getElem?_cons_succ, List.getElem?_cons_zero]; exact rfl
      go_simp
      refine hK.out _ _ ((hSSq _ _).2 ⟨(fun h => absurd h (by decide)), (fun h => absurd h (by decide))⟩) ?_
      clear hK K
      try simp only [Act.put]
      try simp only [List.setIfInBounds_toArray, List.set_cons_zero, List.set_cons_succ]
      refine wpAnyG_done (by kernel_rfl) ?_ _
      refine NoPanic.normal ?_
      clear hSSq SSq
      go_wp2
      refine ⟨⟨k + 1, _, by omega, by go_num, ?_, HSN.out, HS2.out, ((HTD.out).setCell k _).setCell j _⟩, ?_⟩
      · have : (j : Int) - 1 = (n : Int) - 1 - ((k + 1 : Nat) : Int) := by omega
        rw [← this]
      · simp [intOf]; omega
    · have hge : ¬ (k : Int) < jz := by omega
      have hfin := (HSW.out).done (by rw [HVL.out]; omega)
      have HFIN := Lib.hid hfin; clear hfin
      go_wp2
      go_end0
      exact ⟨rfl, by rw [← HFIN.out]; exact HBX.out, HTU.out⟩
end Go.Proofs.Ytecnnpkpgbbfkaa
