/- mesh's readers: Real, turn. -/
import Derived.Test.YtecnnpkpgbbfkaaPartj
import Derived.Laws.Cover1
import Derived.Test.YtecnnpkpgbbfkaaParte
import Derived.Test.YtecnnpkpgbbfkaaPartf
import Derived.Test.YtecnnpkpgbbfkaaParti
namespace Go.MagM
open Go.RowKit
def realT (T : TriM) : Bool := decide (0 ≤ T.v0 ∧ 0 ≤ T.v1 ∧ 0 ≤ T.v2)
def realM (S : List TriM) (t : Int) : Bool := match getT S t with
 | none => false
 | some T => realT T
theorem realT_gone {T : TriM} (h : goneB T = true) : realT T = false := by
 unfold goneB at h; unfold realT
 have := of_decide_eq_true h
 exact decide_eq_false (by omega)
end Go.MagM
namespace Go.Proofs.Ytecnnpkpgbbfkaa
open Go.RowKit Go.MagM
theorem there_quiet {mb pb pc : Nat} {ta : Option Addr} {tc : Nat} {P : List (Int × Int)} {S : List TriM} (t : Int) (w : World) (h : MeshR w mb pb pc ta tc P S) :
  Calls Try.prog 32 #[.pointer (some ⟨mb, 0, none⟩), .int .i64 t] w fun e w' => e = .returned (.bool (thereB S t)) ∧ w' = w :=
 (there_any t w h).mono fun _ _ ⟨a, b⟩ => ⟨a, b.symm⟩
set_option maxRecDepth 100000 in
set_option maxHeartbeats 4000000 in
theorem Real_any {mb pb pc : Nat} {ta : Option Addr} {tc : Nat} {P : List (Int × Int)} {S : List TriM} (t : Int) (w : World) (h : MeshR w mb pb pc ta tc P S) :
  Calls Try.prog 12 #[.pointer (some ⟨mb, 0, none⟩), .int .i64 t] w fun e w' => e = .returned (.bool (realM S t)) ∧ Drew w w' := by
 obtain ⟨b0, b1, -, -⟩ := h.box.open2
 have hsh := h.short.2
 have hc := fun n => there_quiet t _ (h.drewN n)
 obtain ⟨r, hr⟩ : ∃ r, realM S t = r := ⟨_, rfl⟩
 rw [hr]
 unfold realM at hr
 unfold thereB at hc
 cases hg : getT S t with
 | none =>
  rw [hg] at hr hc
  simp only [] at hr hc
  subst hr
  have HC := Lib.hid hc
  clear hc h hsh hg
  go_enter Try.func12, Try.ntmps12
  go_wp2
  go_quiet ((go_at_call 32; exact Calls.quiet_of_same (HC.out _)))
  go_wp2
  go_ret
  exact ⟨rfl, _, rfl⟩
 | some T =>
  rw [hg] at hr hc
  simp only [] at hr hc
  cases hgo : goneB T with
  | true =>
   rw [realT_gone hgo] at hr
   rw [hgo, Bool.not_true] at hc
   subst hr
   have HC := Lib.hid hc
   clear hc h hsh hg hgo
   go_enter Try.func12, Try.ntmps12
   go_wp2
   go_quiet ((go_at_call 32; exact Calls.quiet_of_same (HC.out _)))
   go_wp2
   go_ret
   exact ⟨rfl, _, rfl⟩
  | false =>
   rw [hgo, Bool.not_false] at hc
   obtain ⟨h0, h1, h2⟩ := getT_some hg
   obtain ⟨k, rfl⟩ : ∃ k : Nat, t = k := ⟨t.toNat, by omega⟩
   obtain ⟨tb, rfl, hbl, ht⟩ := h.tris.get h2
   simp only [Int.toNat_natCast] at ht
   have hkl : k < S.length := by omega
   have HC := Lib.hid hc
   have c0 := ht.c0; have c1 := ht.c1; have c2 := ht.c2
   obtain ⟨m, hm⟩ : ∃ m : Int, (if T.v2 < (if T.v1 < T.v0 then T.v1 else T.v0) then T.v2 else (if T.v1 < T.v0 then T.v1 else T.v0)) = m := ⟨_, rfl⟩
   have hmin : ∀ w : World, Sem.run Try.prog (Builtin.min_ #[3, 3, 3] 3 #[.int .i64 T.v0, .int .i64 T.v1, .int .i64 T.v2]) w = Result.ok (Value.int .i64 m) w := fun w => by rw [run_min_int3, hm]
   have hd : decide (0 ≤ m) = r := by
    rw [← hr, ← hm]; unfold realT; rw [decide_eq_decide]; split <;> split at * <;> omega
   clear hc hr hg hgo h h2 ht hsh hm
   go_enter Try.func12, Try.ntmps12
   go_wp2
   go_quiet ((go_at_call 32; exact Calls.quiet_of_same (HC.out _)))
   go_wp2
   go_ret
   exact ⟨rfl, _, rfl⟩
end Go.Proofs.Ytecnnpkpgbbfkaa
/- mesh's readers: turn. -/
namespace Go.MagM
open Go.RowKit
def getP (P : List (Int × Int)) (v : Int) : Option (Int × Int) := if 0 ≤ v then P[v.toNat]? else none
theorem getP_some {P : List (Int × Int)} {v : Int} {p : Int × Int} (h : getP P v = some p) : 0 ≤ v ∧ v < (P.length : Int) ∧ P[v.toNat]? = some p := by
 unfold getP at h
 by_cases h0 : 0 ≤ v
 ·rw [if_pos h0] at h
  have := (List.getElem?_eq_some_iff.1 h).1
  exact ⟨h0, by omega, h⟩
 ·rw [if_neg h0] at h; cases h
theorem getP_none {P : List (Int × Int)} {v : Int} (h : getP P v = none) : ¬ (0 ≤ v ∧ v < (P.length : Int)) := by
 unfold getP at h
 by_cases h0 : 0 ≤ v
 ·rw [if_pos h0] at h
  have := List.getElem?_eq_none_iff.1 h
  omega
 ·omega
def turnM (P : List (Int × Int)) (a b c : Int) : Int := match getP P a, getP P b, getP P c with
 | some p, some q, some r => (crs p.1 p.2 q.1 q.2 r.1 r.2).sign
 | _, _, _ => 0
def InPs (P : List (Int × Int)) : Prop := ∀ p, p ∈ P → InP p.1 ∧ InP p.2
end Go.MagM
namespace Go.Proofs.Ytecnnpkpgbbfkaa
open Go.RowKit Go.MagM
set_option maxRecDepth 100000 in
set_option maxHeartbeats 4000000 in
theorem turn_no {mb pb pc : Nat} {ta : Option Addr} {tc : Nat} {P : List (Int × Int)} {S : List TriM} (a b c : Int) (qa qb qc : Bool) (w : World) (h : MeshR w mb pb pc ta tc P S)
  (ha : decide (0 ≤ a ∧ a < (P.length : Int)) = qa) (hb : decide (0 ≤ b ∧ b < (P.length : Int)) = qb) (hc : decide (0 ≤ c ∧ c < (P.length : Int)) = qc) (hno : (qa && qb && qc) = false) :
  Calls Try.prog 36 #[.pointer (some ⟨mb, 0, none⟩), .int .i64 a, .int .i64 b, .int .i64 c] w fun e w' => e = .returned (.int .i64 0) ∧ w = w' := by
 have ca := isPoint_any a w h
 have cb := isPoint_any b w h
 have cc := isPoint_any c w h
 rw [ha] at ca; rw [hb] at cb; rw [hc] at cc
 have CA := Lib.hid ca; have CB := Lib.hid cb; have CC := Lib.hid cc
 clear ca cb cc ha hb hc h
 cases qa
 ·clear hno
  go_enter Try.func36, Try.ntmps36
  go_wp2_with fail
  refine CA.out.mono ?_
  rintro e w' ⟨rfl, rfl⟩
  go_wp2
  go_ret
  exact ⟨rfl, rfl⟩
 ·cases qb
  ·clear hno
   go_enter Try.func36, Try.ntmps36
   go_wp2_with fail
   refine CA.out.mono ?_
   rintro e w' ⟨rfl, rfl⟩
   go_wp2_with fail
   refine CB.out.mono ?_
   rintro e w' ⟨rfl, rfl⟩
   go_wp2
   go_ret
   exact ⟨rfl, rfl⟩
  ·cases qc
   ·clear hno
    go_enter Try.func36, Try.ntmps36
    go_wp2_with fail
    refine CA.out.mono ?_
    rintro e w' ⟨rfl, rfl⟩
    go_wp2_with fail
    refine CB.out.mono ?_
    rintro e w' ⟨rfl, rfl⟩
    go_wp2_with fail
    refine CC.out.mono ?_
    rintro e w' ⟨rfl, rfl⟩
    go_wp2
    go_ret
    exact ⟨rfl, rfl⟩
   ·simp at hno
set_option maxRecDepth 100000 in
set_option maxHeartbeats 4000000 in
theorem turn_yes {mb pb pc : Nat} {ta : Option Addr} {tc : Nat} {P : List (Int × Int)} {S : List TriM} (a b c : Nat) (a0 a1 b0 b1 c0 c1 s : Int) (w : World) (h : MeshR w mb pb pc ta tc P S) (hP : InPs P)
  (ha : P[a]? = some (a0, a1)) (hb : P[b]? = some (b0, b1)) (hc : P[c]? = some (c0, c1)) (hs : (crs a0 a1 b0 b1 c0 c1).sign = s) :
  Calls Try.prog 36 #[.pointer (some ⟨mb, 0, none⟩), .int .i64 (a : Int), .int .i64 (b : Int), .int .i64 (c : Int)] w fun e w' => e = .returned (.int .i64 s) ∧ Below w.heap.size w w' := by
 have ca := isPoint_any (a : Int) w h
 have cb := isPoint_any (b : Int) w h
 have cc := isPoint_any (c : Int) w h
 have la := (List.getElem?_eq_some_iff.1 ha).1
 have lb := (List.getElem?_eq_some_iff.1 hb).1
 have lc := (List.getElem?_eq_some_iff.1 hc).1
 rw [decide_eq_true (by omega)] at ca cb cc
 have ia := hP _ (List.mem_of_getElem? ha)
 have ib := hP _ (List.mem_of_getElem? hb)
 have ic := hP _ (List.mem_of_getElem? hc)
 have co := fun w => Orient_is a0 a1 b0 b1 c0 c1 ia.1 ia.2 ib.1 ib.2 ic.1 ic.2 hs w
 have hsh := h.short.1
 have H := Lib.hid h; have HA := Lib.hid ha; have HB := Lib.hid hb; have HC := Lib.hid hc
 have CA := Lib.hid ca; have CB := Lib.hid cb; have CC := Lib.hid cc; have CO := Lib.hid co
 clear ca cb cc h hP ha hb hc ia ib ic co hs
 go_enter Try.func36, Try.ntmps36
 go_wp2_with fail
 refine CA.out.mono ?_
 rintro e w' ⟨rfl, rfl⟩
 go_wp2_with fail
 refine CB.out.mono ?_
 rintro e w' ⟨rfl, rfl⟩
 go_wp2_with fail
 refine CC.out.mono ?_
 rintro e w' ⟨rfl, rfl⟩
 go_wp2
 have hB_0 := (Below.refl w.heap.size w).drew'
 have hm_0 := H.out.drew
 go_region_held3 (fun w' => w'.cell? ⟨mb, 0, none⟩ = some (.slice (some ⟨pb, 0, none⟩) P.length pc) ∧ w'.cell? ⟨pb, a * 2, none⟩ = some (.int .i64 a0) ∧ w'.cell? ⟨pb, a * 2 + 1, none⟩ = some (.int .i64 a1) ∧ w'.cell? ⟨pb, b * 2, none⟩ = some (.int .i64 b0) ∧ w'.cell? ⟨pb, b * 2 + 1, none⟩ = some (.int .i64 b1) ∧ w'.cell? ⟨pb, c * 2, none⟩ = some (.int .i64 c0) ∧ w'.cell? ⟨pb, c * 2 + 1, none⟩ = some (.int .i64 c1))
  (first | with_reducible exact ⟨hm_0.box.c0, (hm_0.pt HA.out).1, (hm_0.pt HA.out).2, (hm_0.pt HB.out).1, (hm_0.pt HB.out).2, (hm_0.pt HC.out).1, (hm_0.pt HC.out).2⟩ | with_reducible exact ⟨hm_1.box.c0, (hm_1.pt HA.out).1, (hm_1.pt HA.out).2, (hm_1.pt HB.out).1, (hm_1.pt HB.out).2, (hm_1.pt HC.out).1, (hm_1.pt HC.out).2⟩ | fail)
  (first | (go_at_call 43; (with_reducible refine (CO.out _).mono ?_); rintro e w4 ⟨rfl, hb4⟩; have hB_1 := hB_0.trans (hb4.mono hB_0.size); have hm_1 := hm_0.below hb4))
 go_wp2
 go_ret
 exact ⟨rfl, hB_1⟩
theorem mturn_any {mb pb pc : Nat} {ta : Option Addr} {tc : Nat} {P : List (Int × Int)} {S : List TriM} (a b c : Int) (w : World) (h : MeshR w mb pb pc ta tc P S) (hP : InPs P) :
  Calls Try.prog 36 #[.pointer (some ⟨mb, 0, none⟩), .int .i64 a, .int .i64 b, .int .i64 c] w fun e w' => e = .returned (.int .i64 (turnM P a b c)) ∧ Below w.heap.size w w' := by
 have no : turnM P a b c = 0 → ¬ ((0 ≤ a ∧ a < (P.length : Int)) ∧ (0 ≤ b ∧ b < (P.length : Int)) ∧ (0 ≤ c ∧ c < (P.length : Int))) → Calls Try.prog 36 #[.pointer (some ⟨mb, 0, none⟩), .int .i64 a, .int .i64 b, .int .i64 c] w fun e w' => e = .returned (.int .i64 (turnM P a b c)) ∧ Below w.heap.size w w' := by
  intro e hn
  rw [e]
  refine (turn_no a b c _ _ _ w h rfl rfl rfl ?_).mono fun e w' ⟨h1, h2⟩ => ⟨h1, by subst h2; exact Below.refl _ _⟩
  rw [← Bool.decide_and, ← Bool.decide_and]
  exact decide_eq_false (fun k => hn ⟨k.1.1, k.1.2, k.2⟩)
 unfold turnM at no ⊢
 cases ha : getP P a with
 | none => rw [ha] at no; exact no rfl (fun k => getP_none ha k.1)
 | some p =>
  rw [ha] at no
  cases hb : getP P b with
  | none => rw [hb] at no; exact no rfl (fun k => getP_none hb k.2.1)
  | some q =>
   rw [hb] at no
   cases hc : getP P c with
   | none => rw [hc] at no; exact no rfl (fun k => getP_none hc k.2.2)
   | some r =>
    obtain ⟨a0, a1, a2⟩ := getP_some ha
    obtain ⟨b0, b1, b2⟩ := getP_some hb
    obtain ⟨c0, c1, c2⟩ := getP_some hc
    obtain ⟨a', rfl⟩ : ∃ k : Nat, a = k := ⟨a.toNat, by omega⟩
    obtain ⟨b', rfl⟩ : ∃ k : Nat, b = k := ⟨b.toNat, by omega⟩
    obtain ⟨c', rfl⟩ : ∃ k : Nat, c = k := ⟨c.toNat, by omega⟩
    exact turn_yes a' b' c' _ _ _ _ _ _ _ w h hP a2 b2 c2 rfl
end Go.Proofs.Ytecnnpkpgbbfkaa
/- mesh's checks of one triangle: formed. -/
namespace Go.MagM
open Go.RowKit
def formedT (P : List (Int × Int)) (S : List TriM) (T : TriM) : Bool :=
 if placeT T (-1) = -1 then decide (0 < turnM P T.v0 T.v1 T.v2)
 else if placeT T (-1) = 0 then realM S T.n0 && !T.f1 && !T.f2
 else if placeT T (-1) = 1 then realM S T.n1 && !T.f2 && !T.f0
 else realM S T.n2 && !T.f0 && !T.f1
theorem placeT_cases (T : TriM) (v : Int) : placeT T v = -1 ∨ placeT T v = 0 ∨ placeT T v = 1 ∨ placeT T v = 2 := by
 unfold placeT; split
 ·simp
 ·split
  ·simp
  ·split <;> simp
end Go.MagM
namespace Go.Proofs.Ytecnnpkpgbbfkaa
open Go.RowKit Go.MagM
set_option maxRecDepth 100000 in
set_option maxHeartbeats 8000000 in
theorem formed_any {mb pb pc : Nat} {ta : Option Addr} {tc : Nat} {P : List (Int × Int)} {S : List TriM} (k : Nat) (T : TriM) (w : World) (h : MeshR w mb pb pc ta tc P S) (hP : InPs P) (hT : S[k]? = some T) :
  Calls Try.prog 20 #[.pointer (some ⟨mb, 0, none⟩), .int .i64 (k : Int)] w fun e w' => e = .returned (.bool (formedT P S T)) ∧ Below w.heap.size w w' := by
 obtain ⟨b0, b1, -, -⟩ := h.box.open2
 have hsh := h.short.2
 have hkl := (List.getElem?_eq_some_iff.1 hT).1
 obtain ⟨r, hr⟩ : ∃ r, formedT P S T = r := ⟨_, rfl⟩
 rw [hr]
 obtain ⟨tb, rfl, hbl, ht⟩ := h.tris.get hT
 have hi := index_any tb (k * 9) 3 3 [T.v0, T.v1, T.v2] (-1) w rfl (by omega) (fun j u hj => by
  have h0 := ht.c0; have h1 := ht.c1; have h2 := ht.c2
  match j, hj with
  | 0, hj => simp at hj; subst hj; exact h0
  | 1, hj => simp at hj; subst hj; exact h1
  | 2, hj => simp at hj; subst hj; exact h2
  | _ + 3, hj => simp at hj)
 rw [place_idx] at hi
 unfold formedT at hr
 have H := Lib.hid h; have HB := Lib.hid h.box; have HPS := Lib.hid hP
 clear h hP hT
 rcases placeT_cases T (-1) with hgv | hgv
 ·rw [if_pos hgv] at hr
  rw [hgv] at hi
  obtain ⟨z, hz⟩ : ∃ z, turnM P T.v0 T.v1 T.v2 = z := ⟨_, rfl⟩
  have hturn := fun w hw => mturn_any (mb := mb) (pb := pb) (pc := pc) (ta := some ⟨tb, 0, none⟩) (tc := tc) (S := S) T.v0 T.v1 T.v2 w hw HPS.out
  rw [hz] at hr hturn
  have HI := Lib.hid hi; have HTU := Lib.hid hturn; have HT := Lib.hid ht
  clear hi hturn hz hgv ht
  go_enter Try.func20, Try.ntmps20
  go_wp2_with fail
  refine HI.out.mono ?_
  rintro e w' ⟨rfl, rfl⟩
  go_wp2
  have hB_0 := (Below.refl w.heap.size w).drew'
  have hm_0 := H.out.drew
  have ht_0 := HT.out.drew
  have HZ := Lib.hid hr; clear hr
  go_region_held3 (fun w' => w'.cell? ⟨tb, k * 9, none⟩ = some (.int .i64 T.v0) ∧ w'.cell? ⟨tb, k * 9 + 1, none⟩ = some (.int .i64 T.v1) ∧ w'.cell? ⟨tb, k * 9 + 2, none⟩ = some (.int .i64 T.v2))
   (first | with_reducible exact ⟨ht_0.c0, ht_0.c1, ht_0.c2⟩ | with_reducible exact ⟨ht_1.c0, ht_1.c1, ht_1.c2⟩ | fail)
   (first | (go_at_call 36; (with_reducible refine (HTU.out _ hm_0).mono ?_); rintro e w4 ⟨rfl, hb4⟩; have hB_1 := hB_0.trans (hb4.mono hB_0.size); have ht_1 := ht_0.below hb4))
  go_wp2
  go_ret
  exact ⟨by rw [← HZ.out]; rfl, hB_1⟩
 ·have hne : ¬ placeT T (-1) = -1 := by omega
  rw [if_neg hne] at hr
  clear hne
  have HR := Lib.hid hr
  clear hr
  obtain ⟨gv, hgv'⟩ : ∃ gv, placeT T (-1) = gv := ⟨_, rfl⟩
  rw [hgv'] at hi hgv
  have HI' := Lib.hid hi; clear hi
  have HR' := HR.out
  rw [hgv'] at HR'
  clear HR hgv'
  have HR := Lib.hid HR'
  clear HR'
  have HI := HI'; clear HI'
  rcases hgv with hgv | hgv | hgv
  ·-- Ghost at place 0
   subst hgv
   have c3 := ht.c3
   have hreal := Real_any (T.n0) _ H.out
   obtain ⟨rl, hrl⟩ : ∃ rl, realM S T.n0 = rl := ⟨_, rfl⟩
   rw [hrl] at hreal
   have HRL := Lib.hid hreal; have HT := Lib.hid ht
   have hrr : r = (rl && !T.f1 && !T.f2) := by
    rw [← HR.out, ← hrl]; rfl
   clear hreal hrl ht
   cases rl
   ·have hr' : r = false := by rw [hrr]; rfl
    subst hr'; clear hrr
    go_enter Try.func20, Try.ntmps20
    go_wp2_with fail
    refine HI.out.mono ?_
    rintro e w' ⟨rfl, rfl⟩
    go_wp2_with fail
    refine HRL.out.mono ?_
    rintro e w' ⟨rfl, q, rfl⟩
    go_wp2
    go_ret
    exact ⟨rfl, Drew.below ⟨_, rfl⟩⟩
   ·cases hf1 : T.f1
    ·have hr' : r = !T.f2 := by rw [hrr, hf1]; rfl
     subst hr'; clear hrr
     go_enter Try.func20, Try.ntmps20
     go_wp2_with fail
     refine HI.out.mono ?_
     rintro e w' ⟨rfl, rfl⟩
     go_wp2_with fail
     refine HRL.out.mono ?_
     rintro e w' ⟨rfl, q, rfl⟩
     have htq := HT.out.drewN q
     have d1 := htq.c7; have d2 := htq.c8
     rw [hf1] at d1
     have hbq := HB.out.drewN q
     obtain ⟨m0, m1, -, -⟩ := hbq.open2
     clear hf1
     go_wp2
     go_ret
     exact ⟨rfl, Drew.below ⟨_, rfl⟩⟩
    ·have hr' : r = false := by rw [hrr, hf1]; rfl
     subst hr'; clear hrr
     go_enter Try.func20, Try.ntmps20
     go_wp2_with fail
     refine HI.out.mono ?_
     rintro e w' ⟨rfl, rfl⟩
     go_wp2_with fail
     refine HRL.out.mono ?_
     rintro e w' ⟨rfl, q, rfl⟩
     have htq := HT.out.drewN q
     have d1 := htq.c7
     rw [hf1] at d1
     have hbq := HB.out.drewN q
     obtain ⟨m0, m1, -, -⟩ := hbq.open2
     clear hf1
     go_wp2
     go_ret
     exact ⟨rfl, Drew.below ⟨_, rfl⟩⟩
  ·-- Ghost at place 1
   subst hgv
   have c3 := ht.c4
   have hreal := Real_any (T.n1) _ H.out
   obtain ⟨rl, hrl⟩ : ∃ rl, realM S T.n1 = rl := ⟨_, rfl⟩
   rw [hrl] at hreal
   have HRL := Lib.hid hreal; have HT := Lib.hid ht
   have hrr : r = (rl && !T.f2 && !T.f0) := by
    rw [← HR.out, ← hrl]; rfl
   clear hreal hrl ht
   cases rl
   ·have hr' : r = false := by rw [hrr]; rfl
    subst hr'; clear hrr
    go_enter Try.func20, Try.ntmps20
    go_wp2_with fail
    refine HI.out.mono ?_
    rintro e w' ⟨rfl, rfl⟩
    go_wp2_with fail
    refine HRL.out.mono ?_
    rintro e w' ⟨rfl, q, rfl⟩
    go_wp2
    go_ret
    exact ⟨rfl, Drew.below ⟨_, rfl⟩⟩
   ·cases hf1 : T.f2
    ·have hr' : r = !T.f0 := by rw [hrr, hf1]; rfl
     subst hr'; clear hrr
     go_enter Try.func20, Try.ntmps20
     go_wp2_with fail
     refine HI.out.mono ?_
     rintro e w' ⟨rfl, rfl⟩
     go_wp2_with fail
     refine HRL.out.mono ?_
     rintro e w' ⟨rfl, q, rfl⟩
     have htq := HT.out.drewN q
     have d1 := htq.c8; have d2 := htq.c6
     rw [hf1] at d1
     have hbq := HB.out.drewN q
     obtain ⟨m0, m1, -, -⟩ := hbq.open2
     clear hf1
     go_wp2
     go_ret
     exact ⟨rfl, Drew.below ⟨_, rfl⟩⟩
    ·have hr' : r = false := by rw [hrr, hf1]; rfl
     subst hr'; clear hrr
     go_enter Try.func20, Try.ntmps20
     go_wp2_with fail
     refine HI.out.mono ?_
     rintro e w' ⟨rfl, rfl⟩
     go_wp2_with fail
     refine HRL.out.mono ?_
     rintro e w' ⟨rfl, q, rfl⟩
     have htq := HT.out.drewN q
     have d1 := htq.c8
     rw [hf1] at d1
     have hbq := HB.out.drewN q
     obtain ⟨m0, m1, -, -⟩ := hbq.open2
     clear hf1
     go_wp2
     go_ret
     exact ⟨rfl, Drew.below ⟨_, rfl⟩⟩
  ·-- Ghost at place 2
   subst hgv
   have c3 := ht.c5
   have hreal := Real_any (T.n2) _ H.out
   obtain ⟨rl, hrl⟩ : ∃ rl, realM S T.n2 = rl := ⟨_, rfl⟩
   rw [hrl] at hreal
   have HRL := Lib.hid hreal; have HT := Lib.hid ht
   have hrr : r = (rl && !T.f0 && !T.f1) := by
    rw [← HR.out, ← hrl]; rfl
   clear hreal hrl ht
   cases rl
   ·have hr' : r = false := by rw [hrr]; rfl
    subst hr'; clear hrr
    go_enter Try.func20, Try.ntmps20
    go_wp2_with fail
    refine HI.out.mono ?_
    rintro e w' ⟨rfl, rfl⟩
    go_wp2_with fail
    refine HRL.out.mono ?_
    rintro e w' ⟨rfl, q, rfl⟩
    go_wp2
    go_ret
    exact ⟨rfl, Drew.below ⟨_, rfl⟩⟩
   ·cases hf1 : T.f0
    ·have hr' : r = !T.f1 := by rw [hrr, hf1]; rfl
     subst hr'; clear hrr
     go_enter Try.func20, Try.ntmps20
     go_wp2_with fail
     refine HI.out.mono ?_
     rintro e w' ⟨rfl, rfl⟩
     go_wp2_with fail
     refine HRL.out.mono ?_
     rintro e w' ⟨rfl, q, rfl⟩
     have htq := HT.out.drewN q
     have d1 := htq.c6; have d2 := htq.c7
     rw [hf1] at d1
     have hbq := HB.out.drewN q
     obtain ⟨m0, m1, -, -⟩ := hbq.open2
     clear hf1
     go_wp2
     go_ret
     exact ⟨rfl, Drew.below ⟨_, rfl⟩⟩
    ·have hr' : r = false := by rw [hrr, hf1]; rfl
     subst hr'; clear hrr
     go_enter Try.func20, Try.ntmps20
     go_wp2_with fail
     refine HI.out.mono ?_
     rintro e w' ⟨rfl, rfl⟩
     go_wp2_with fail
     refine HRL.out.mono ?_
     rintro e w' ⟨rfl, q, rfl⟩
     have htq := HT.out.drewN q
     have d1 := htq.c6
     rw [hf1] at d1
     have hbq := HB.out.drewN q
     obtain ⟨m0, m1, -, -⟩ := hbq.open2
     clear hf1
     go_wp2
     go_ret
     exact ⟨rfl, Drew.below ⟨_, rfl⟩⟩
end Go.Proofs.Ytecnnpkpgbbfkaa
/- mesh's checks of one triangle: linked. -/
namespace Go.MagM
open Go.RowKit
theorem At9i.n {w : World} {b o : Nat} {T : TriM} (h : At9i w b o T) {j : Nat} (hj : j < 3) : w.cell? ⟨b, o + 3 + j, none⟩ = some (.int .i64 (T.n j)) := by
 obtain rfl | rfl | rfl : j = 0 ∨ j = 1 ∨ j = 2 := by omega
 ·exact h.c3
 ·exact h.c4
 ·exact h.c5
theorem At9i.f {w : World} {b o : Nat} {T : TriM} (h : At9i w b o T) {j : Nat} (hj : j < 3) : w.cell? ⟨b, o + 6 + j, none⟩ = some (.bool (T.f j)) := by
 obtain rfl | rfl | rfl : j = 0 ∨ j = 1 ∨ j = 2 := by omega
 ·exact h.c6
 ·exact h.c7
 ·exact h.c8
theorem At9i.v {w : World} {b o : Nat} {T : TriM} (h : At9i w b o T) {j : Nat} (hj : j < 3) : w.cell? ⟨b, o + j, none⟩ = some (.int .i64 (T.v j)) := by
 obtain rfl | rfl | rfl : j = 0 ∨ j = 1 ∨ j = 2 := by omega
 ·exact h.c0
 ·exact h.c1
 ·exact h.c2
/-- Across edge i of t, which is T, lies that edge, the other way round, which tells the same of it. -/
def linkI (S : List TriM) (t : Nat) (T : TriM) (i : Nat) : Bool := match getT S (T.n i) with
 | none => false
 | some U => !goneB U && (edgeT U (edgeV T i).2 (edgeV T i).1 != -1) && (U.n (edgeT U (edgeV T i).2 (edgeV T i).1).toNat == (t : Int)) && (U.f (edgeT U (edgeV T i).2 (edgeV T i).1).toNat == T.f i)
def linkedT (S : List TriM) (t : Nat) (T : TriM) : Bool := linkI S t T 0 && linkI S t T 1 && linkI S t T 2
theorem linkedT_yes {S : List TriM} {t : Nat} {T : TriM} (h : ∀ i : Nat, i < 3 → linkI S t T i = true) : linkedT S t T = true := by
 unfold linkedT; rw [h 0 (by omega), h 1 (by omega), h 2 (by omega)]; rfl
theorem linkedT_no {S : List TriM} {t : Nat} {T : TriM} {i : Nat} (hi : i < 3) (h : linkI S t T i = false) : linkedT S t T = false := by
 unfold linkedT
 obtain rfl | rfl | rfl : i = 0 ∨ i = 1 ∨ i = 2 := by omega
 ·rw [h]; rfl
 ·rw [h, Bool.and_false]; rfl
 ·rw [h, Bool.and_false]
theorem edgeT_cases (T : TriM) (a b : Int) : edgeT T a b = -1 ∨ ∃ j : Nat, j < 3 ∧ edgeT T a b = (j : Int) ∧ edgeV T j = (a, b) := by
 unfold edgeT
 split
 ·exact .inr ⟨0, by omega, rfl, by assumption⟩
 ·split
  ·exact .inr ⟨1, by omega, rfl, by assumption⟩
  ·split
   ·exact .inr ⟨2, by omega, rfl, by assumption⟩
   ·exact .inl rfl
end Go.MagM
namespace Go.Proofs.Ytecnnpkpgbbfkaa
open Go.RowKit Go.MagM
theorem index3_run (T : TriM) (i : Nat) (hi : i < 3) (w : World) : (Instr.index 46 (.agg #[.int .i64 T.n0, .int .i64 T.n1, .int .i64 T.n2]) (.int .i64 (i : Int))).run Try.prog w = .ok (.int .i64 (T.n i)) w := by
 obtain rfl | rfl | rfl : i = 0 ∨ i = 1 ∨ i = 2 := by omega
 all_goals kernel_rfl
set_option maxRecDepth 100000 in
set_option maxHeartbeats 8000000 in
theorem linked_any {mb pb pc : Nat} {ta : Option Addr} {tc : Nat} {P : List (Int × Int)} {S : List TriM} (k : Nat) (T : TriM) (w : World) (h : MeshR w mb pb pc ta tc P S) (hT : S[k]? = some T) :
  Calls Try.prog 21 #[.pointer (some ⟨mb, 0, none⟩), .int .i64 (k : Int)] w fun e w' => e = .returned (.bool (linkedT S k T)) ∧ Drew w w' := by
 obtain ⟨b0, b1, -, -⟩ := h.box.open2
 have hsh := h.short.2
 have hkl := (List.getElem?_eq_some_iff.1 hT).1
 obtain ⟨r, hr⟩ : ∃ r, linkedT S k T = r := ⟨_, rfl⟩
 rw [hr]
 obtain ⟨tb, rfl, hbl, ht⟩ := h.tris.get hT
 have H := Lib.hid h; have HR := Lib.hid hr; have HT := Lib.hid ht
 have c3 := ht.c3; have c4 := ht.c4; have c5 := ht.c5
 clear h hr hT ht
 go_enter Try.func21, Try.ntmps21
 go_wp2
 clear b0 b1 c3 c4 c5
 go_loopw [6, 7, 8, 9, 10, 21] (fun _ _ _ _ _ iv wr => ∃ i : Nat, i ≤ 3 ∧ iv = .int .i64 i ∧ (∀ j : Nat, j < i → linkI S k T j = true) ∧ Drew w wr) (fun _ _ _ _ _ iv _ => 3 - (intOf iv).toNat)
 case atStart => exact ⟨0, by omega, rfl, fun j hj => by omega, Drew.refl _⟩
 case round =>
  obtain ⟨i, hi, rfl, hne, q, rfl⟩ := hrel
  have HNE := Lib.hid hne; clear hne
  by_cases hlt : i < 3
  ·have hix := fun w => index3_run T i hlt w
   have htq := (HT.out).drewN q
   have hends := ends_any tb (k * 9) i hlt T _ htq.c0 htq.c1 htq.c2
   obtain ⟨x, y, hxy⟩ : ∃ x y, edgeV T i = (x, y) := ⟨_, _, rfl⟩
   rw [hxy] at hends
   simp only [] at hends
   obtain ⟨u, hu⟩ : ∃ u, T.n i = u := ⟨_, rfl⟩
   rw [hu] at hix
   obtain ⟨jv, hjv⟩ : ∃ jv, edgeM S u y x = jv := ⟨_, rfl⟩
   obtain ⟨li, hli⟩ : ∃ li, linkI S k T i = li := ⟨_, rfl⟩
   have hedge := fun q' => edge_any u y x _ ((H.out).drewN q')
   rw [hjv] at hedge
   have HXY := Lib.hid hxy; have HE := Lib.hid hends; have HU := Lib.hid hu; have HG := Lib.hid hedge; have HJV := Lib.hid hjv; have HLI := Lib.hid hli
   clear htq hends hxy hu hedge hjv hli
   go_wp2_with fail
   refine HE.out.mono ?_
   rintro e w' ⟨rfl, q1, rfl⟩
   go_wp2_with fail
   refine (HG.out _).mono ?_
   rintro e w' ⟨rfl, q2, rfl⟩
   -- what comes of it
   have hcase : (jv = -1 ∧ li = false) ∨ ∃ (U : TriM) (m : Nat) (j : Nat), u = (m : Int) ∧ jv = (j : Int) ∧ j < 3 ∧ S[m]? = some U ∧ li = (U.n j == (k : Int) && U.f j == T.f i) := by
    have h1 := HJV.out; have h2 := HLI.out
    unfold linkI at h2
    unfold edgeM at h1
    rw [HU.out] at h2
    rw [HXY.out] at h2
    simp only [] at h2
    cases hg : getT S u with
    | none => rw [hg] at h1 h2; exact .inl ⟨h1.symm, h2.symm⟩
    | some U =>
     rw [hg] at h1 h2
     simp only [] at h1 h2
     cases hgo : goneB U with
     | true => rw [hgo] at h1 h2; simp at h1 h2; exact .inl ⟨h1.symm, h2⟩
     | false =>
      rw [hgo] at h1 h2
      simp only [Bool.false_eq_true, if_false, Bool.not_false, Bool.true_and] at h1 h2
      rcases edgeT_cases U y x with hc | ⟨j, hj3, hc, -⟩
      ·rw [hc] at h1 h2; simp at h2; exact .inl ⟨h1.symm, h2⟩
      ·rw [hc] at h1 h2
       obtain ⟨g0, g1, g2⟩ := getT_some hg
       have : ((j : Int) != -1) = true := by simp
       rw [this, Bool.true_and, Int.toNat_natCast] at h2
       exact .inr ⟨U, u.toNat, j, by omega, h1.symm, hj3, g2, h2.symm⟩
   rcases hcase with ⟨rfl, rfl⟩ | ⟨U, m, j, rfl, rfl, hj3, hU, hl2⟩
   ·have hr' : r = false := by rw [← HR.out]; exact linkedT_no hlt HLI.out
    subst hr'
    go_wp2
    go_quiet (fail)
    go_wp2
    go_ret
    exact ⟨rfl, _, World.drewN_drewN _ _ _⟩
   ·have hjm : ((j : Int) == -1) = false := by simp
    have hml := (List.getElem?_eq_some_iff.1 hU).1
    obtain ⟨tb', e, -, hu9⟩ := (H.out).tris.get hU
    obtain rfl : tb = tb' := by simpa using e
    clear e hU
    have HU9 := Lib.hid hu9; clear hu9
    have b0 := (H.out).box.c0; have b1 := (H.out).box.c1
    have un := (HU9.out).n hj3
    have uf := (HU9.out).f hj3
    have tf := (HT.out).f hlt
    obtain ⟨nn, hnn⟩ : ∃ nn, U.n j = nn := ⟨_, rfl⟩
    obtain ⟨ff, hff⟩ : ∃ ff, U.f j = ff := ⟨_, rfl⟩
    obtain ⟨gf, hgf⟩ : ∃ gf, T.f i = gf := ⟨_, rfl⟩
    rw [hnn] at un hl2; rw [hff] at uf hl2; rw [hgf] at tf hl2
    clear hnn hff hgf
    by_cases hn : nn = (k : Int)
    ·have hd : (nn == (k : Int)) = true := by simp [hn]
     have hd' : (nn != (k : Int)) = false := by simp [hn]
     by_cases hf : ff = gf
     ·have hli' : li = true := by rw [hl2, hd, hf]; simp
      have hbd : (ff == gf) = true := by simp [hf]
      have HLT : Hid (linkI S k T i = true) := by rw [← hli']; exact Lib.hid HLI.out
      clear hl2 hn hf
      go_wp2
      go_quiet (fail)
      go_wp2
      go_roundw
      case rel => exact ⟨i + 1, by omega, by go_num, fun j hj => by
       rcases Nat.lt_or_ge j i with g | g
       ·exact HNE.out j g
       ·obtain rfl : j = i := by omega
        exact HLT.out, _, rfl⟩
      case measure => simp [intOf]; omega
     ·have hli' : li = false := by rw [hl2]; simp [hf]
      have hbd : (ff == gf) = false := by simpa using hf
      have hr' : r = false := by rw [← HR.out]; exact linkedT_no hlt (by rw [HLI.out, hli'])
      clear hl2 hn hf hli'
      subst hr'
      go_wp2
      go_quiet (fail)
      go_wp2
      go_ret
      exact ⟨rfl, _, World.drewN_drewN _ _ _⟩
    ·have hd : (nn == (k : Int)) = false := by simp [hn]
     have hd' : (nn != (k : Int)) = true := by simp [hn]
     have hli' : li = false := by rw [hl2, hd]; rfl
     have hr' : r = false := by rw [← HR.out]; exact linkedT_no hlt (by rw [HLI.out, hli'])
     clear hl2 hn hli'
     subst hr'
     go_wp2
     go_quiet (fail)
     go_wp2
     go_ret
     exact ⟨rfl, _, World.drewN_drewN _ _ _⟩
  ·have hr' : r = true := by rw [← HR.out]; exact linkedT_yes (fun j hj => HNE.out j (by omega))
   subst hr'
   go_wp2
   go_ret
   exact ⟨rfl, _, rfl⟩
end Go.Proofs.Ytecnnpkpgbbfkaa
/- mesh's check of a border: convex. -/
namespace Go.MagM
open Go.RowKit
/-- Two cells at o. -/
structure At2 (w : World) (b o : Nat) (u v : Value) : Prop where
 c0 : w.cell? ⟨b, o, none⟩ = some u
 c1 : w.cell? ⟨b, o + 1, none⟩ = some v
theorem At2.below {w w' : World} {b o : Nat} {u v : Value} (h : At2 w b o u v) (hb : Below w.heap.size w w') : At2 w' b o u v := by
 have hl := World.block_lt_of_cell? w _ h.c0
 exact ⟨(hb.cell (p := ⟨b, o, none⟩) hl).trans h.c0, (hb.cell (p := ⟨b, o + 1, none⟩) hl).trans h.c1⟩
theorem At2.drew {w : World} {b o : Nat} {u v : Value} (h : At2 w b o u v) : At2 w.drew b o u v := ⟨h.c0, h.c1⟩
/-- One cell at o. -/
structure At1 (w : World) (b o : Nat) (u : Value) : Prop where
 c0 : w.cell? ⟨b, o, none⟩ = some u
theorem At1.below {w w' : World} {b o : Nat} {u : Value} (h : At1 w b o u) (hb : Below w.heap.size w w') : At1 w' b o u :=
 ⟨(hb.cell (p := ⟨b, o, none⟩) (World.block_lt_of_cell? w _ h.c0)).trans h.c0⟩
theorem At1.drew {w : World} {b o : Nat} {u : Value} (h : At1 w b o u) : At1 w.drew b o u := ⟨h.c0⟩
theorem At2.far {w : World} {b o g : Nat} {u v : Value} (h : At2 w b o u v) (hne : b ≠ g) (i : Nat) (x : Value) : At2 (w.setCell ⟨g, i, none⟩ x) b o u v := by
 have ne : ∀ j, (⟨g, i, none⟩ : Addr) ≠ ⟨b, j, none⟩ := by intro j k; injection k with k1; exact hne k1.symm
 refine ⟨?_, ?_⟩
 ·rw [World.cell?_setCell_other _ _ _ _ (by first | exact ne _ | exact (ne _).symm)]; exact h.c0
 ·rw [World.cell?_setCell_other _ _ _ _ (by first | exact ne _ | exact (ne _).symm)]; exact h.c1
theorem At1.far {w : World} {b o g : Nat} {u : Value} (h : At1 w b o u) (hne : b ≠ g) (i : Nat) (x : Value) : At1 (w.setCell ⟨g, i, none⟩ x) b o u := by
 have ne : ∀ j, (⟨g, i, none⟩ : Addr) ≠ ⟨b, j, none⟩ := by intro j k; injection k with k1; exact hne k1.symm
 refine ⟨?_⟩
 rw [World.cell?_setCell_other _ _ _ _ (by first | exact ne _ | exact (ne _).symm)]; exact h.c0
theorem At2.farFrom {b o g : Nat} {u v : Value} (hne : b ≠ g) : ∀ (xs : List Value) (i : Nat) {w : World}, At2 w b o u v → At2 (setAll w g i xs) b o u v
 | [], _, _, h => h
 | x :: xs, i, _, h => At2.farFrom hne xs (i + 1) (h.far hne i x)
theorem At2.farAll {w : World} {b o g' : Nat} {u v : Value} (h : At2 w b o u v) (hne : b ≠ g') (xs : List Value) : At2 (setAll w g' 0 xs) b o u v := At2.farFrom hne xs 0 h
theorem At1.farFrom {b o g : Nat} {u : Value} (hne : b ≠ g) : ∀ (xs : List Value) (i : Nat) {w : World}, At1 w b o u → At1 (setAll w g i xs) b o u
 | [], _, _, h => h
 | x :: xs, i, _, h => At1.farFrom hne xs (i + 1) (h.far hne i x)
theorem At1.farAll {w : World} {b o g' : Nat} {u : Value} (h : At1 w b o u) (hne : b ≠ g') (xs : List Value) : At1 (setAll w g' 0 xs) b o u := At1.farFrom hne xs 0 h
/-- Block b holds these numbers of points. -/
def NatsIn (w : World) (b : Nat) (l : List Nat) : Prop := ∀ (i v : Nat), l[i]? = some v → w.cell? ⟨b, i, none⟩ = some (.int .i64 (v : Int))
theorem NatsIn.below {w w' : World} {b : Nat} {l : List Nat} (h : NatsIn w b l) (hb : Below w.heap.size w w') : NatsIn w' b l := by
 intro i v hi
 have h1 := h i v hi
 exact (hb.cell (p := ⟨b, i, none⟩) (World.block_lt_of_cell? w _ h1)).trans h1
theorem mod_one (k n : Nat) : ((k : Int) + 1).tmod (n : Int) = (((k + 1) % n : Nat) : Int) := by
 rw [show (k : Int) + 1 = ((k + 1 : Nat) : Int) by omega]; exact (Int.ofNat_tmod _ _).symm
theorem mod_two (k n : Nat) : ((k : Int) + 2).tmod (n : Int) = (((k + 2) % n : Nat) : Int) := by
 rw [show (k : Int) + 2 = ((k + 2 : Nat) : Int) by omega]; exact (Int.ofNat_tmod _ _).symm
def ptA (P : List (Int × Int)) (v : Nat) : Int × Int := P[v]?.getD (0, 0)
theorem ptA_at {P : List (Int × Int)} {v : Nat} (h : v < P.length) : P[v]? = some ((ptA P v).1, (ptA P v).2) := by
 unfold ptA; rw [List.getElem?_eq_getElem h]; rfl
def natA (l : List Nat) (i : Nat) : Nat := l[i]?.getD 0
theorem natA_at {l : List Nat} {i : Nat} (h : i < l.length) : l[i]? = some (natA l i) := by
 unfold natA; rw [List.getElem?_eq_getElem h]; rfl
end Go.MagM
namespace Go.Proofs.Ytecnnpkpgbbfkaa
open Go.RowKit Go.MagM
/-- A point strictly between two others, on their line. -/
def betP (a b v : Int × Int) : Bool := decide (¬ (a.1 = b.1 ∧ a.2 = b.2) ∧ ¬ (a.1 = v.1 ∧ a.2 = v.2)) && onP a.1 a.2 b.1 b.2 v.1 v.2
/-- Three points of a border: it turns left, or goes on straight. -/
def okC (a b c : Int × Int) : Bool := decide (0 < crs a.1 a.2 b.1 b.2 c.1 c.2) || betP b a c
def riseC (a b c : Int × Int) : Bool := decide (b.2 ≤ a.2 ∧ b.2 < c.2)
def corC (P : List (Int × Int)) (hs : List Nat) (i : Nat) : Int × Int := ptA P (natA hs (i % hs.length))
def cntC (P : List (Int × Int)) (hs : List Nat) : Nat → Nat
 | 0 => 0
 | k + 1 => cntC P hs k + if riseC (corC P hs k) (corC P hs (k + 1)) (corC P hs (k + 2)) = true then 1 else 0
def okAll (P : List (Int × Int)) (hs : List Nat) : Bool := (List.range hs.length).all fun k => okC (corC P hs k) (corC P hs (k + 1)) (corC P hs (k + 2))
def convexM (P : List (Int × Int)) (hs : List Nat) : Bool := okAll P hs && cntC P hs hs.length == 1
theorem cntC_le (P : List (Int × Int)) (hs : List Nat) : ∀ k, cntC P hs k ≤ k
 | 0 => Nat.le_refl _
 | k + 1 => by
  have := cntC_le P hs k
  unfold cntC; split <;> omega
set_option maxRecDepth 100000 in
set_option maxHeartbeats 16000000 in
theorem convex_any {mb pb pc : Nat} {ta : Option Addr} {tc : Nat} {P : List (Int × Int)} {S : List TriM} (hb hc n : Nat) (hs : List Nat) (w : World) (h : MeshR w mb pb pc ta tc P S) (hP : InPs P) (hl : hs.length = n) (hn : n ≤ 1000000) (hnat : NatsIn w hb hs) (hv : ∀ v, v ∈ hs → v < P.length) :
  Calls Try.prog 24 #[.pointer (some ⟨mb, 0, none⟩), .slice (some ⟨hb, 0, none⟩) n hc] w fun e w' => e = .returned (.bool (convexM P hs)) ∧ Below w.heap.size w w' := by
 have hB_0 := Below.refl w.heap.size w
 have H := Lib.hid h; have HN := Lib.hid hnat; have HV := Lib.hid hv; have HPS := Lib.hid hP; have hsh := h.short.1; have HL := Lib.hid hl
 obtain ⟨r, hr⟩ : ∃ r, convexM P hs = r := ⟨_, rfl⟩
 rw [hr]
 have HR := Lib.hid hr; clear h hnat hv hP hr hl
 go_enter Try.func24, Try.ntmps24
 go_wp2
 go_loopw [5, 6, 12] (fun rv _ iv wr => ∃ k : Nat, k ≤ n ∧ iv = .int .i64 k ∧ rv = .int .i64 (cntC P hs k : Nat) ∧ (∀ i, i < k → okC (corC P hs i) (corC P hs (i + 1)) (corC P hs (i + 2)) = true) ∧ Below w.heap.size w wr) (fun _ _ iv _ => n - (intOf iv).toNat)
 case atStart => exact ⟨0, Nat.zero_le _, rfl, rfl, fun i hi => by omega, hB_0⟩
 case round =>
  obtain ⟨k, hk, rfl, rfl, hall, hB_0⟩ := hrel
  have hcl := cntC_le P hs k
  have HALL := Lib.hid hall; clear hall
  by_cases hlt : k < n
  ·have hlen := HL.out
   obtain ⟨j, hj⟩ : ∃ j, (k + 1) % n = j := ⟨_, rfl⟩
   have hjn : j < n := by rw [← hj]; exact Nat.mod_lt _ (by omega)
   obtain ⟨i, hi⟩ : ∃ i, (k + 2) % n = i := ⟨_, rfl⟩
   have hin : i < n := by rw [← hi]; exact Nat.mod_lt _ (by omega)
   have lk := natA_at (l := hs) (i := k) (by omega)
   have lj := natA_at (l := hs) (i := j) (by omega)
   have li := natA_at (l := hs) (i := i) (by omega)
   have vk := HV.out _ (List.mem_of_getElem? lk)
   have vj := HV.out _ (List.mem_of_getElem? lj)
   have vi := HV.out _ (List.mem_of_getElem? li)
   have pk := ptA_at vk; have pj := ptA_at vj; have pi := ptA_at vi
   have ek : corC P hs k = ptA P (natA hs k) := by unfold corC; rw [hlen, Nat.mod_eq_of_lt hlt]
   have ej : corC P hs (k + 1) = ptA P (natA hs j) := by unfold corC; rw [hlen, hj]
   have ei : corC P hs (k + 2) = ptA P (natA hs i) := by unfold corC; rw [hlen, hi]
   obtain ⟨A', hA⟩ : ∃ A', natA hs k = A' := ⟨_, rfl⟩
   obtain ⟨B', hB'⟩ : ∃ B', natA hs j = B' := ⟨_, rfl⟩
   obtain ⟨C', hC⟩ : ∃ C', natA hs i = C' := ⟨_, rfl⟩
   rw [hA] at lk vk pk ek; rw [hB'] at lj vj pj ej; rw [hC] at li vi pi ei
   clear hA hB' hC
   obtain ⟨a0, a1, ha⟩ : ∃ x y, ptA P A' = (x, y) := ⟨_, _, rfl⟩
   obtain ⟨b0, b1, hb⟩ : ∃ x y, ptA P B' = (x, y) := ⟨_, _, rfl⟩
   obtain ⟨c0, c1, hc⟩ : ∃ x y, ptA P C' = (x, y) := ⟨_, _, rfl⟩
   rw [ha] at pk ek; rw [hb] at pj ej; rw [hc] at pi ei
   simp only [] at pk pj pi
   clear ha hb hc
   have ia := HPS.out _ (List.mem_of_getElem? pk)
   have ib := HPS.out _ (List.mem_of_getElem? pj)
   have ic := HPS.out _ (List.mem_of_getElem? pi)
   have IA := Lib.hid ia; have IB := Lib.hid ib; have IC := Lib.hid ic
   have hmod : ((k : Int) + 1).tmod (n : Int) = (j : Int) := by rw [mod_one, hj]
   have hmod2 : ((k : Int) + 2).tmod (n : Int) = (i : Int) := by rw [mod_two, hi]
   have hk0 : ((n : Int) == 0) = false := by simp; omega
   have hkn : ¬ n = 0 := by omega
   have hwj : IntKind.i64.wrap ((k : Int) + 1) = (k : Int) + 1 := by rw [IntKind.wrap_i64]; omega
   have hwi : IntKind.i64.wrap ((k : Int) + 2) = (k : Int) + 2 := by rw [IntKind.wrap_i64]; omega
   have hwc : IntKind.i64.wrap ((cntC P hs k : Int) + 1) = (cntC P hs k : Int) + 1 := by rw [IntKind.wrap_i64]; omega
   have hb1 : (0 : Int) ≤ (k : Int) := by omega
   have hb2 : (k : Int) < (n : Int) := by omega
   have hb3 : (0 : Int) ≤ (j : Int) := by omega
   have hb4 : (j : Int) < (n : Int) := by omega
   have hb5 : (0 : Int) ≤ (i : Int) := by omega
   have hb6 : (i : Int) < (n : Int) := by omega
   have hv1 : (0 : Int) ≤ (A' : Int) := by omega
   have hv2 : (A' : Int) < (P.length : Int) := by omega
   have hv3 : (0 : Int) ≤ (B' : Int) := by omega
   have hv4 : (B' : Int) < (P.length : Int) := by omega
   have hv5 : (0 : Int) ≤ (C' : Int) := by omega
   have hv6 : (C' : Int) < (P.length : Int) := by omega
   have nk : At1 w hb k (.int .i64 (A' : Int)) := ⟨HN.out _ _ lk⟩
   have nj : At1 w hb j (.int .i64 (B' : Int)) := ⟨HN.out _ _ lj⟩
   have ni : At1 w hb i (.int .i64 (C' : Int)) := ⟨HN.out _ _ li⟩
   have qa : At2 w pb (A' * 2) (.int .i64 a0) (.int .i64 a1) := ⟨(H.out.pt pk).1, (H.out.pt pk).2⟩
   have qb : At2 w pb (B' * 2) (.int .i64 b0) (.int .i64 b1) := ⟨(H.out.pt pj).1, (H.out.pt pj).2⟩
   have qc : At2 w pb (C' * 2) (.int .i64 c0) (.int .i64 c1) := ⟨(H.out.pt pi).1, (H.out.pt pi).2⟩
   obtain ⟨s, hs'⟩ : ∃ s, (crs a0 a1 b0 b1 c0 c1).sign = s := ⟨_, rfl⟩
   obtain ⟨bt, hbt⟩ : ∃ bt, betP (b0, b1) (a0, a1) (c0, c1) = bt := ⟨_, rfl⟩
   obtain ⟨ok, hok⟩ : ∃ ok, okC (corC P hs k) (corC P hs (k + 1)) (corC P hs (k + 2)) = ok := ⟨_, rfl⟩
   obtain ⟨ri, hri⟩ : ∃ ri, riseC (corC P hs k) (corC P hs (k + 1)) (corC P hs (k + 2)) = ri := ⟨_, rfl⟩
   have hcn : cntC P hs (k + 1) = cntC P hs k + if ri = true then 1 else 0 := by rw [← hri]; rfl
   have hok2 : ok = (decide (0 < s) || bt) := by
    rw [← hok, ek, ej, ei, ← hbt]; unfold okC
    have : (0 < crs a0 a1 b0 b1 c0 c1) ↔ 0 < s := by rw [← hs']; exact Int.sign_pos_iff.symm
    simp only [this]
   have hri2 : ri = decide (b1 ≤ a1 ∧ b1 < c1) := by rw [← hri, ek, ej, ei]; rfl
   have HS := Lib.hid hs'; have HBT := Lib.hid hbt; have HOK := Lib.hid hok; have HOK2 := Lib.hid hok2; have HCN := Lib.hid hcn; have HRI2 := Lib.hid hri2
   clear lk lj li vk vj vi pk pj pi ek ej ei ia ib ic hj hi hs' hbt hok hri hcn hok2 hri2 hlen
   have pm_0 : Box wr mb [.slice (some ⟨pb, 0, none⟩) P.length pc, .slice ta S.length tc] := (H.out.below hB_0).box
   have nk_0 := nk.below hB_0; have nj_0 := nj.below hB_0; have ni_0 := ni.below hB_0
   have qa_0 := qa.below hB_0; have qb_0 := qb.below hB_0; have qc_0 := qc.below hB_0
   clear nk nj ni qa qb qc
   have hgb1 := World.block_lt_of_cell? wr _ qa_0.c0
   have hgh1 := World.block_lt_of_cell? wr _ nk_0.c0
   simp only at hgb1 hgh1
   go_wp2
   have hWq_0 := Below.refl wr.heap.size wr
   have hsq : w.heap.size ≤ wr.heap.size := hB_0.size
   have hlqpm := pm_0.lt
   have hB_1 := hB_0.drew'
   have pm_1 := pm_0.drew
   have nk_1 := nk_0.drew
   have nj_1 := nj_0.drew
   have ni_1 := ni_0.drew
   have qa_1 := qa_0.drew
   have qb_1 := qb_0.drew
   have qc_1 := qc_0.drew
   have hWq_1 := hWq_0.drew'
   clear hB_0 pm_0 nk_0 nj_0 ni_0 qa_0 qb_0 qc_0 hWq_0
   obtain ⟨FFq, hFFq⟩ : ∃ F : World → Prop, ∀ w', F w' ↔ (Below w.heap.size w w' ∧ Box w' (mb) [.slice (some ⟨pb, 0, none⟩) P.length pc, .slice ta S.length tc] ∧ At1 w' hb k (.int .i64 (A' : Int)) ∧ At1 w' hb j (.int .i64 (B' : Int)) ∧ At1 w' hb i (.int .i64 (C' : Int)) ∧ At2 w' pb (A' * 2) (.int .i64 a0) (.int .i64 a1) ∧ At2 w' pb (B' * 2) (.int .i64 b0) (.int .i64 b1) ∧ At2 w' pb (C' * 2) (.int .i64 c0) (.int .i64 c1) ∧ Below wr.heap.size wr w') := ⟨_, fun _ => Iff.rfl⟩
   have cFq : ∀ {w' w'' : World}, FFq w' → Below w'.heap.size w' w'' → FFq w'' := by
    intro w' w'' h hb
    obtain ⟨y0, y1, y2, y3, y4, y5, y6, y7, y8⟩ := (hFFq _).1 h
    exact (hFFq _).2 ⟨y0.trans (hb.mono y0.size), y1.below hb, y2.below hb, y3.below hb, y4.below hb, y5.below hb, y6.below hb, y7.below hb, y8.trans (hb.mono y8.size)⟩
   have mFq : ∀ {w' : World}, FFq w' → wr.heap.size ≤ w'.heap.size := by
    intro w' h
    obtain ⟨y0, y1, y2, y3, y4, y5, y6, y7, y8⟩ := (hFFq _).1 h
    exact y8.size
   have sFq : ∀ {w' : World}, FFq w' → (w'.cell? ⟨mb, 0, none⟩ = some (.slice (some ⟨pb, 0, none⟩) P.length pc) ∧ w'.cell? ⟨mb, 1, none⟩ = some (.slice ta S.length tc) ∧ w'.cell? ⟨hb, k, none⟩ = some (.int .i64 (A' : Int)) ∧ w'.cell? ⟨hb, j, none⟩ = some (.int .i64 (B' : Int)) ∧ w'.cell? ⟨hb, i, none⟩ = some (.int .i64 (C' : Int)) ∧ w'.cell? ⟨pb, A' * 2, none⟩ = some (.int .i64 a0) ∧ w'.cell? ⟨pb, A' * 2 + 1, none⟩ = some (.int .i64 a1) ∧ w'.cell? ⟨pb, B' * 2, none⟩ = some (.int .i64 b0) ∧ w'.cell? ⟨pb, B' * 2 + 1, none⟩ = some (.int .i64 b1) ∧ w'.cell? ⟨pb, C' * 2, none⟩ = some (.int .i64 c0) ∧ w'.cell? ⟨pb, C' * 2 + 1, none⟩ = some (.int .i64 c1)) := by
    intro w' h
    obtain ⟨y0, y1, y2, y3, y4, y5, y6, y7, y8⟩ := (hFFq _).1 h
    exact ⟨y1.c0, y1.c1, y2.c0, y3.c0, y4.c0, y5.c0, y5.c1, y6.c0, y6.c1, y7.c0, y7.c1⟩
   have zF : FFq wr.drew := (hFFq _).2 ⟨hB_1, pm_1, nk_1, nj_1, ni_1, qa_1, qb_1, qc_1, hWq_1⟩
   clear hB_1 pm_1 nk_1 nj_1 ni_1 qa_1 qb_1 qc_1 hWq_1
   refine wp_region_noPanic ?_
   refine wp_region_held_drew (S := fun w' => w'.cell? ⟨mb, 0, none⟩ = some (.slice (some ⟨pb, 0, none⟩) P.length pc) ∧ w'.cell? ⟨mb, 1, none⟩ = some (.slice ta S.length tc) ∧ w'.cell? ⟨hb, k, none⟩ = some (.int .i64 (A' : Int)) ∧ w'.cell? ⟨hb, j, none⟩ = some (.int .i64 (B' : Int)) ∧ w'.cell? ⟨hb, i, none⟩ = some (.int .i64 (C' : Int)) ∧ w'.cell? ⟨pb, A' * 2, none⟩ = some (.int .i64 a0) ∧ w'.cell? ⟨pb, A' * 2 + 1, none⟩ = some (.int .i64 a1) ∧ w'.cell? ⟨pb, B' * 2, none⟩ = some (.int .i64 b0) ∧ w'.cell? ⟨pb, B' * 2 + 1, none⟩ = some (.int .i64 b1) ∧ w'.cell? ⟨pb, C' * 2, none⟩ = some (.int .i64 c0) ∧ w'.cell? ⟨pb, C' * 2 + 1, none⟩ = some (.int .i64 c1)) (by kernel_rfl) (sFq zF) (fun hHeld => ?_)
   refine rU 0 _ _ ?_
   (try simp only [Act.put]);try simp only [sA,sZ,sS]
   refine rU 1 _ _ ?_
   (try simp only [Act.put]);try simp only [sA,sZ,sS]
   refine rU 2 _ _ ?_
   (try simp only [Act.put]);try simp only [sA,sZ,sS]
   refine rU 3 _ _ ?_
   (try simp only [Act.put]);try simp only [sA,sZ,sS]
   refine rU 4 _ _ ?_
   (try simp only [Act.put]);try simp only [sA,sZ,sS]
   refine rU 5 _ _ ?_
   (try simp only [Act.put]);try simp only [sA,sZ,sS]
   refine rU 6 _ _ ?_
   (try simp only [Act.put]);try simp only [sA,sZ,sS]
   refine rU 7 _ _ ?_
   (try simp only [Act.put]);try simp only [sA,sZ,sS]
   refine rU 8 _ _ ?_
   (try simp only [Act.put]);try simp only [sA,sZ,sS]
   refine rU 9 _ _ ?_
   (try simp only [Act.put]);try simp only [sA,sZ,sS]
   refine rU 10 _ _ ?_
   (try simp only [Act.put]);try simp only [sA,sZ,sS]
   refine rU 11 _ _ ?_
   (try simp only [Act.put]);try simp only [sA,sZ,sS]
   refine rU 12 _ _ ?_
   (try simp only [Act.put]);try simp only [sA,sZ,sS]
   refine rU 13 _ _ ?_
   (try simp only [Act.put]);try simp only [sA,sZ,sS]
   refine rU 14 _ _ ?_
   (try simp only [Act.put]);try simp only [sA,sZ,sS]
   refine rU 15 _ _ ?_
   (try simp only [Act.put]);try simp only [sA,sZ,sS]
   refine rU 16 _ _ ?_
   (try simp only [Act.put]);try simp only [sA,sZ,sS]
   refine rU 17 _ _ ?_
   (try simp only [Act.put]);try simp only [sA,sZ,sS]
   refine rU 18 _ _ ?_
   (try simp only [Act.put]);try simp only [sA,sZ,sS]
   refine rU 19 _ _ ?_
   (try simp only [Act.put]);try simp only [sA,sZ,sS]
   refine rU 20 _ _ ?_
   (try simp only [Act.put]);try simp only [sA,sZ,sS]
   refine rU 21 _ _ ?_
   (try simp only [Act.put]);try simp only [sA,sZ,sS]
   refine rU 22 _ _ ?_
   (try simp only [Act.put]);try simp only [sA,sZ,sS]
   refine rU 23 _ _ ?_
   (try simp only [Act.put]);try simp only [sA,sZ,sS]
   refine rU 24 _ _ ?_
   (try simp only [Act.put]);try simp only [sA,sZ,sS]
   refine rU 25 _ _ ?_
   (try simp only [Act.put]);try simp only [sA,sZ,sS]
   refine rU 26 _ _ ?_
   (try simp only [Act.put]);try simp only [sA,sZ,sS]
   refine rU 27 _ _ ?_
   (try simp only [Act.put]);try simp only [sA,sZ,sS]
   refine rU 28 _ _ ?_
   (try simp only [Act.put]);try simp only [sA,sZ,sS]
   refine rU 29 _ _ ?_
   (try simp only [Act.put]);try simp only [sA,sZ,sS]
   refine rU 30 _ _ ?_
   (try simp only [Act.put]);try simp only [sA,sZ,sS]
   refine rU 31 _ _ ?_
   (try simp only [Act.put]);try simp only [sA,sZ,sS]
   refine rU 32 _ _ ?_
   (try simp only [Act.put]);try simp only [sA,sZ,sS]
   refine rU 33 _ _ ?_
   (try simp only [Act.put]);try simp only [sA,sZ,sS]
   refine rU 34 _ _ ?_
   (try simp only [Act.put]);try simp only [sA,sZ,sS]
   refine rU 35 _ _ ?_
   (try simp only [Act.put]);try simp only [sA,sZ,sS]
   refine rU 36 _ _ ?_
   (try simp only [Act.put]);try simp only [sA,sZ,sS]
   refine rU 37 _ _ ?_
   (try simp only [Act.put]);try simp only [sA,sZ,sS]
   refine reg_grab (fun WWq aq hWW hAA => ?_)
   rw [hWW]
   have HAq := Lib.hid hAA; clear hWW hAA hHeld
   obtain ⟨IVq, hIVq⟩ : ∃ IV : Array Bool → Act → World → Prop, ∀ l a w', IV l a w' ↔ ∀ CC : Prop, (∀ (lb38 lb39 lb40 : Bool) (lv38 lv39 lv40 : Value) (gxa gxb gxc : Nat), (l = #[true, true, true, true, true, true, true, true, true, true, true, true, true, true, true, true, true, true, true, true, true, true, true, true, true, true, true, true, true, true, true, true, true, true, true, true, true, true, lb38, lb39, lb40, false, false, false]) → (a = (((aq.put (some 7) lv38).put (some 8) lv39).put (some 9) lv40)) → (FFq w') → ((lb38 = true → lv38 = .pointer (some ⟨gxa, 0, none⟩) ∧ Box w' gxa [.int .i64 0, .int .i64 0] ∧ wr.heap.size ≤ gxa)) → ((lb39 = true → lv39 = .pointer (some ⟨gxb, 0, none⟩) ∧ Box w' gxb [.int .i64 0, .int .i64 0] ∧ wr.heap.size ≤ gxb)) → ((lb40 = true → lv40 = .pointer (some ⟨gxc, 0, none⟩) ∧ Box w' gxc [.int .i64 0, .int .i64 0] ∧ wr.heap.size ≤ gxc)) → ((lb38 = true → lb39 = true → gxa ≠ gxb)) → ((lb38 = true → lb40 = true → gxa ≠ gxc)) → ((lb39 = true → lb40 = true → gxb ≠ gxc)) → CC) → CC := ⟨_, fun _ _ _ => Iff.rfl⟩
   refine wpAnyH_until IVq ?_ _ _ _ _ ((hIVq _ _ _).2 (fun CC kk => kk false false false (aq.tmps.getD 7 undef) (aq.tmps.getD 8 undef) (aq.tmps.getD 9 undef) 0 0 0 rfl (by simp only [put_same]) zF (fun h => by cases h) (fun h => by cases h) (fun h => by cases h) (fun h => by cases h) (fun h => by cases h) (fun h => by cases h))) (by kernel_rfl)
   clear zF
   intro ll aa w1 hI
   refine (hIVq _ _ _).1 hI _ ?_
   clear hI
   intro lb38 lb39 lb40 lv38 lv39 lv40 gxa gxb gxc hll haa zF F38 F39 F40 nq38_39 nq38_40 nq39_40
   subst hll haa
   by_cases hL : lb38 = true ∧ lb39 = true ∧ lb40 = true
   ·left
    obtain ⟨rfl, rfl, rfl⟩ := hL
    obtain ⟨rfl, xa_0, hgxa⟩ := F38 rfl
    clear F38
    obtain ⟨rfl, xb_0, hgxb⟩ := F39 rfl
    clear F39
    obtain ⟨rfl, xc_0, hgxc⟩ := F40 rfl
    clear F40
    have hnxaxb := nq38_39 rfl rfl
    have hnxaxc := nq38_40 rfl rfl
    have hnxbxc := nq39_40 rfl rfl
    clear nq38_39 nq38_40 nq39_40
    show wpAnyH _ _ _ _ _ 3 _ _ _
    rw [HAq.out]
    (try simp only [Act.put]);try simp only [sA,sZ,sS]
    obtain ⟨hB_0, pm_0, nk_0, nj_0, ni_0, qa_0, qb_0, qc_0, hWq_0⟩ := (hFFq _).1 zF
    clear zF
    clear hWq_0
    obtain ⟨sf1a, sf1b, sf1c, sf1d⟩ := xa_0.open2
    obtain ⟨sg1a, sg1b⟩ := Box.put2 xa_0 (.int .i64 a0)
    refine reg_call 41 ?_ (by kernel_rfl) ?_ (fun K hK => ?_);rotate_left 1
    ·simp only [gA,gS,gZ]; exact rfl
    go_simp
    have hB_1 := below_setAll hB_0 (g := gxa) (by omega) [.int .i64 a0, .int .i64 a1]
    have pm_1 := pm_0.farAll (g' := gxa) (by omega) [.int .i64 a0, .int .i64 a1]
    have nk_1 := nk_0.farAll (g' := gxa) (by omega) [.int .i64 a0, .int .i64 a1]
    have nj_1 := nj_0.farAll (g' := gxa) (by omega) [.int .i64 a0, .int .i64 a1]
    have ni_1 := ni_0.farAll (g' := gxa) (by omega) [.int .i64 a0, .int .i64 a1]
    have qa_1 := qa_0.farAll (g' := gxa) (by omega) [.int .i64 a0, .int .i64 a1]
    have qb_1 := qb_0.farAll (g' := gxa) (by omega) [.int .i64 a0, .int .i64 a1]
    have qc_1 := qc_0.farAll (g' := gxa) (by omega) [.int .i64 a0, .int .i64 a1]
    have xb_1 := xb_0.farAll (g' := gxa) (by omega) [.int .i64 a0, .int .i64 a1]
    have xc_1 := xc_0.farAll (g' := gxa) (by omega) [.int .i64 a0, .int .i64 a1]
    have xa_1 := xa_0.setAll [.int .i64 a0, .int .i64 a1] rfl
    simp only [setAll, Nat.zero_add] at hB_1 pm_1 nk_1 nj_1 ni_1 qa_1 qb_1 qc_1 xa_1 xb_1 xc_1
    clear sf1a sf1b sf1c sf1d sg1a sg1b
    clear hB_0 pm_0 nk_0 nj_0 ni_0 qa_0 qb_0 qc_0 xb_0 xc_0 xa_0
    refine hK.out _ _ ⟨pm_1.c0, pm_1.c1, nk_1.c0, nj_1.c0, ni_1.c0, qa_1.c0, qa_1.c1, qb_1.c0, qb_1.c1, qc_1.c0, qc_1.c1⟩ (fun hHeld => ?_)
    clear hK K
    (try simp only [Act.put]);try simp only [sA,sZ,sS]
    generalize (World.setCell (World.setCell w1 ⟨gxa, 0, none⟩ (.int .i64 a0)) ⟨gxa, 1, none⟩ (.int .i64 a1)) = w2 at *
    obtain ⟨sf2a, sf2b, sf2c, sf2d⟩ := xb_1.open2
    obtain ⟨sg2a, sg2b⟩ := Box.put2 xb_1 (.int .i64 b0)
    refine reg_call 42 ?_ (by kernel_rfl) ?_ (fun K hK => ?_);rotate_left 1
    ·simp only [gA,gS,gZ]; exact rfl
    go_simp
    have hB_2 := below_setAll hB_1 (g := gxb) (by omega) [.int .i64 b0, .int .i64 b1]
    have pm_2 := pm_1.farAll (g' := gxb) (by omega) [.int .i64 b0, .int .i64 b1]
    have nk_2 := nk_1.farAll (g' := gxb) (by omega) [.int .i64 b0, .int .i64 b1]
    have nj_2 := nj_1.farAll (g' := gxb) (by omega) [.int .i64 b0, .int .i64 b1]
    have ni_2 := ni_1.farAll (g' := gxb) (by omega) [.int .i64 b0, .int .i64 b1]
    have qa_2 := qa_1.farAll (g' := gxb) (by omega) [.int .i64 b0, .int .i64 b1]
    have qb_2 := qb_1.farAll (g' := gxb) (by omega) [.int .i64 b0, .int .i64 b1]
    have qc_2 := qc_1.farAll (g' := gxb) (by omega) [.int .i64 b0, .int .i64 b1]
    have xa_2 := xa_1.farAll (g' := gxb) (by omega) [.int .i64 b0, .int .i64 b1]
    have xc_2 := xc_1.farAll (g' := gxb) (by omega) [.int .i64 b0, .int .i64 b1]
    have xb_2 := xb_1.setAll [.int .i64 b0, .int .i64 b1] rfl
    simp only [setAll, Nat.zero_add] at hB_2 pm_2 nk_2 nj_2 ni_2 qa_2 qb_2 qc_2 xa_2 xb_2 xc_2
    clear sf2a sf2b sf2c sf2d sg2a sg2b
    clear hB_1 pm_1 nk_1 nj_1 ni_1 qa_1 qb_1 qc_1 xa_1 xc_1 xb_1
    refine hK.out _ _ ⟨pm_2.c0, pm_2.c1, nk_2.c0, nj_2.c0, ni_2.c0, qa_2.c0, qa_2.c1, qb_2.c0, qb_2.c1, qc_2.c0, qc_2.c1⟩ (fun hHeld => ?_)
    clear hK K
    (try simp only [Act.put]);try simp only [sA,sZ,sS]
    generalize (World.setCell (World.setCell w2 ⟨gxb, 0, none⟩ (.int .i64 b0)) ⟨gxb, 1, none⟩ (.int .i64 b1)) = w3 at *
    obtain ⟨sf3a, sf3b, sf3c, sf3d⟩ := xc_2.open2
    obtain ⟨sg3a, sg3b⟩ := Box.put2 xc_2 (.int .i64 c0)
    refine reg_call 43 ?_ (by kernel_rfl) ?_ (fun K hK => ?_);rotate_left 1
    ·simp only [gA,gS,gZ]; exact rfl
    go_simp
    have hB_3 := below_setAll hB_2 (g := gxc) (by omega) [.int .i64 c0, .int .i64 c1]
    have pm_3 := pm_2.farAll (g' := gxc) (by omega) [.int .i64 c0, .int .i64 c1]
    have nk_3 := nk_2.farAll (g' := gxc) (by omega) [.int .i64 c0, .int .i64 c1]
    have nj_3 := nj_2.farAll (g' := gxc) (by omega) [.int .i64 c0, .int .i64 c1]
    have ni_3 := ni_2.farAll (g' := gxc) (by omega) [.int .i64 c0, .int .i64 c1]
    have qa_3 := qa_2.farAll (g' := gxc) (by omega) [.int .i64 c0, .int .i64 c1]
    have qb_3 := qb_2.farAll (g' := gxc) (by omega) [.int .i64 c0, .int .i64 c1]
    have qc_3 := qc_2.farAll (g' := gxc) (by omega) [.int .i64 c0, .int .i64 c1]
    have xa_3 := xa_2.farAll (g' := gxc) (by omega) [.int .i64 c0, .int .i64 c1]
    have xb_3 := xb_2.farAll (g' := gxc) (by omega) [.int .i64 c0, .int .i64 c1]
    have xc_3 := xc_2.setAll [.int .i64 c0, .int .i64 c1] rfl
    simp only [setAll, Nat.zero_add] at hB_3 pm_3 nk_3 nj_3 ni_3 qa_3 qb_3 qc_3 xa_3 xb_3 xc_3
    clear sf3a sf3b sf3c sf3d sg3a sg3b
    clear hB_2 pm_2 nk_2 nj_2 ni_2 qa_2 qb_2 qc_2 xa_2 xb_2 xc_2
    refine hK.out _ _ ⟨pm_3.c0, pm_3.c1, nk_3.c0, nj_3.c0, ni_3.c0, qa_3.c0, qa_3.c1, qb_3.c0, qb_3.c1, qc_3.c0, qc_3.c1⟩ (fun hHeld => ?_)
    clear hK K
    (try simp only [Act.put]);try simp only [sA,sZ,sS]
    generalize (World.setCell (World.setCell w3 ⟨gxc, 0, none⟩ (.int .i64 c0)) ⟨gxc, 1, none⟩ (.int .i64 c1)) = w4 at *
    refine wpAnyH_done (by kernel_rfl) ?_ _
    refine NoPanic.normal ?_
    clear nk_3 nj_3 ni_3 qa_3 qb_3 qc_3
    obtain ⟨xae0, xae1, xae2, xae3⟩ := xa_3.open2
    obtain ⟨xbe0, xbe1, xbe2, xbe3⟩ := xb_3.open2
    obtain ⟨xce0, xce1, xce2, xce3⟩ := xc_3.open2
    go_wp2_with fail
    refine (Orient_is a0 a1 b0 b1 c0 c1 IA.out.1 IA.out.2 IB.out.1 IB.out.2 IC.out.1 IC.out.2 HS.out _).mono ?_
    rintro e w5 ⟨rfl, hb5⟩
    clear xae0 xae1 xae2 xae3 xbe0 xbe1 xbe2 xbe3 xce0 xce1 xce2 xce3
    have hB_4 := hB_3.trans (hb5.mono hB_3.size)
    have pm_4 := pm_3.below hb5
    have xa_4 := xa_3.below hb5
    have xb_4 := xb_3.below hb5
    have xc_4 := xc_3.below hb5
    clear hb5 hB_3 pm_3 xa_3 xb_3 xc_3
    obtain ⟨xae0, xae1, xae2, xae3⟩ := xa_4.open2
    obtain ⟨xbe0, xbe1, xbe2, xbe3⟩ := xb_4.open2
    obtain ⟨xce0, xce1, xce2, xce3⟩ := xc_4.open2
    by_cases hs0 : s ≤ 0
    ·have e0 : decide (s ≤ 0) = true := by simp; omega
     have hok3 : ok = bt := by rw [HOK2.out, decide_eq_false (by omega), Bool.false_or]
     have HOK3 := Lib.hid hok3; clear hok3 hs0
     go_wp2_with fail
     refine (Between_is b0 b1 a0 a1 c0 c1 IB.out.1 IB.out.2 IA.out.1 IA.out.2 IC.out.1 IC.out.2 bt HBT.out _).mono ?_
     rintro e w6 ⟨rfl, hb6⟩
     clear xae0 xae1 xae2 xae3 xbe0 xbe1 xbe2 xbe3 xce0 xce1 xce2 xce3
     have hB_5 := hB_4.trans (hb6.mono hB_4.size)
     have pm_5 := pm_4.below hb6
     have xa_5 := xa_4.below hb6
     have xb_5 := xb_4.below hb6
     have xc_5 := xc_4.below hb6
     clear hb6 hB_4 pm_4 xa_4 xb_4 xc_4
     obtain ⟨xae0, xae1, xae2, xae3⟩ := xa_5.open2
     obtain ⟨xbe0, xbe1, xbe2, xbe3⟩ := xb_5.open2
     obtain ⟨xce0, xce1, xce2, xce3⟩ := xc_5.open2
     cases bt
     ·have hr' : r = false := by
       rw [← HR.out]; unfold convexM
       have : okAll P hs = false := by
        unfold okAll
        rw [List.all_eq_false]
        exact ⟨k, List.mem_range.2 (by rw [HL.out]; exact hlt), by rw [HOK.out, HOK3.out]; simp⟩
       rw [this]; rfl
      subst hr'
      go_wp2
      go_ret
      exact ⟨rfl, hB_5⟩
     ·have HOKT : Hid (okC (corC P hs k) (corC P hs (k + 1)) (corC P hs (k + 2)) = true) := by rw [HOK.out, HOK3.out]; exact Lib.hid rfl
      by_cases h1 : b1 ≤ a1
      ·have HD1 := Lib.hid h1
       have e1 : decide (b1 ≤ a1) = true := by simp; omega
       clear h1
       by_cases h2 : b1 < c1
       ·have HD2 := Lib.hid h2
        have e2 : decide (b1 < c1) = true := by simp; omega
        clear h2
        have hr' : ri = true := by rw [HRI2.out]; simp; have := HD1.out; have := HD2.out; omega
        have HRN := Lib.hid hr'; clear hr'
        go_wp2
        refine ⟨⟨k + 1, by omega, by go_num, by rw [HCN.out, HRN.out]; go_num, fun i' hi' => ?_, hB_5⟩, by simp [intOf]; omega⟩
        rcases Nat.lt_or_ge i' k with g | g
        ·exact HALL.out i' g
        ·obtain rfl : i' = k := by omega
         exact HOKT.out
       ·have HD2 := Lib.hid h2
        have e2 : decide (b1 < c1) = false := by simp; omega
        clear h2
        have hr' : ri = false := by rw [HRI2.out]; simp; have := HD1.out; have := HD2.out; omega
        have HRN := Lib.hid hr'; clear hr'
        go_wp2
        refine ⟨⟨k + 1, by omega, by go_num, by rw [HCN.out, HRN.out]; rfl, fun i' hi' => ?_, hB_5⟩, by simp [intOf]; omega⟩
        rcases Nat.lt_or_ge i' k with g | g
        ·exact HALL.out i' g
        ·obtain rfl : i' = k := by omega
         exact HOKT.out
      ·have HD1 := Lib.hid h1
       have e1 : decide (b1 ≤ a1) = false := by simp; omega
       clear h1
       have hr' : ri = false := by rw [HRI2.out]; simp; have := HD1.out; omega
       have HRN := Lib.hid hr'; clear hr'
       go_wp2
       refine ⟨⟨k + 1, by omega, by go_num, by rw [HCN.out, HRN.out]; rfl, fun i' hi' => ?_, hB_5⟩, by simp [intOf]; omega⟩
       rcases Nat.lt_or_ge i' k with g | g
       ·exact HALL.out i' g
       ·obtain rfl : i' = k := by omega
        exact HOKT.out
    ·have e0 : decide (s ≤ 0) = false := by simp; omega
     have HOKT : Hid (okC (corC P hs k) (corC P hs (k + 1)) (corC P hs (k + 2)) = true) := by rw [HOK.out, HOK2.out, decide_eq_true (by omega), Bool.true_or]; exact Lib.hid rfl
     clear hs0
     by_cases h1 : b1 ≤ a1
     ·have HD1 := Lib.hid h1
      have e1 : decide (b1 ≤ a1) = true := by simp; omega
      clear h1
      by_cases h2 : b1 < c1
      ·have HD2 := Lib.hid h2
       have e2 : decide (b1 < c1) = true := by simp; omega
       clear h2
       have hr' : ri = true := by rw [HRI2.out]; simp; have := HD1.out; have := HD2.out; omega
       have HRN := Lib.hid hr'; clear hr'
       go_wp2
       refine ⟨⟨k + 1, by omega, by go_num, by rw [HCN.out, HRN.out]; go_num, fun i' hi' => ?_, hB_4⟩, by simp [intOf]; omega⟩
       rcases Nat.lt_or_ge i' k with g | g
       ·exact HALL.out i' g
       ·obtain rfl : i' = k := by omega
        exact HOKT.out
      ·have HD2 := Lib.hid h2
       have e2 : decide (b1 < c1) = false := by simp; omega
       clear h2
       have hr' : ri = false := by rw [HRI2.out]; simp; have := HD1.out; have := HD2.out; omega
       have HRN := Lib.hid hr'; clear hr'
       go_wp2
       refine ⟨⟨k + 1, by omega, by go_num, by rw [HCN.out, HRN.out]; rfl, fun i' hi' => ?_, hB_4⟩, by simp [intOf]; omega⟩
       rcases Nat.lt_or_ge i' k with g | g
       ·exact HALL.out i' g
       ·obtain rfl : i' = k := by omega
        exact HOKT.out
     ·have HD1 := Lib.hid h1
      have e1 : decide (b1 ≤ a1) = false := by simp; omega
      clear h1
      have hr' : ri = false := by rw [HRI2.out]; simp; have := HD1.out; omega
      have HRN := Lib.hid hr'; clear hr'
      go_wp2
      refine ⟨⟨k + 1, by omega, by go_num, by rw [HCN.out, HRN.out]; rfl, fun i' hi' => ?_, hB_4⟩, by simp [intOf]; omega⟩
      rcases Nat.lt_or_ge i' k with g | g
      ·exact HALL.out i' g
      ·obtain rfl : i' = k := by omega
       exact HOKT.out
   ·right
    refine ⟨?_, fun i hi => ?_⟩
    ·clear zF F38 F39 F40 nq38_39 nq38_40 nq39_40
     cases lb38
     ·exact ready_of 38 _ rfl rfl (by kernel_rfl)
     cases lb39
     ·exact ready_of 39 _ rfl rfl (by kernel_rfl)
     cases lb40
     ·exact ready_of 40 _ rfl rfl (by kernel_rfl)
     exact absurd ⟨rfl, rfl, rfl⟩ hL
    have hd : (lb38 = false ∧ i = 38) ∨ (lb39 = false ∧ i = 39) ∨ (lb40 = false ∧ i = 40) := by
     have hin := ready_lt hi
     obtain rfl | rfl | rfl | rfl | rfl | rfl | rfl | rfl | rfl | rfl | rfl | rfl | rfl | rfl | rfl | rfl | rfl | rfl | rfl | rfl | rfl | rfl | rfl | rfl | rfl | rfl | rfl | rfl | rfl | rfl | rfl | rfl | rfl | rfl | rfl | rfl | rfl | rfl | rfl | rfl | rfl | rfl | rfl | rfl : i = 0 ∨ i = 1 ∨ i = 2 ∨ i = 3 ∨ i = 4 ∨ i = 5 ∨ i = 6 ∨ i = 7 ∨ i = 8 ∨ i = 9 ∨ i = 10 ∨ i = 11 ∨ i = 12 ∨ i = 13 ∨ i = 14 ∨ i = 15 ∨ i = 16 ∨ i = 17 ∨ i = 18 ∨ i = 19 ∨ i = 20 ∨ i = 21 ∨ i = 22 ∨ i = 23 ∨ i = 24 ∨ i = 25 ∨ i = 26 ∨ i = 27 ∨ i = 28 ∨ i = 29 ∨ i = 30 ∨ i = 31 ∨ i = 32 ∨ i = 33 ∨ i = 34 ∨ i = 35 ∨ i = 36 ∨ i = 37 ∨ i = 38 ∨ i = 39 ∨ i = 40 ∨ i = 41 ∨ i = 42 ∨ i = 43 := by have hin' : i < 44 := hin; omega
     ·exact absurd (ready_off hi) (fun h => Bool.noConfusion (show true = false from h))
     ·exact absurd (ready_off hi) (fun h => Bool.noConfusion (show true = false from h))
     ·exact absurd (ready_off hi) (fun h => Bool.noConfusion (show true = false from h))
     ·exact absurd (ready_off hi) (fun h => Bool.noConfusion (show true = false from h))
     ·exact absurd (ready_off hi) (fun h => Bool.noConfusion (show true = false from h))
     ·exact absurd (ready_off hi) (fun h => Bool.noConfusion (show true = false from h))
     ·exact absurd (ready_off hi) (fun h => Bool.noConfusion (show true = false from h))
     ·exact absurd (ready_off hi) (fun h => Bool.noConfusion (show true = false from h))
     ·exact absurd (ready_off hi) (fun h => Bool.noConfusion (show true = false from h))
     ·exact absurd (ready_off hi) (fun h => Bool.noConfusion (show true = false from h))
     ·exact absurd (ready_off hi) (fun h => Bool.noConfusion (show true = false from h))
     ·exact absurd (ready_off hi) (fun h => Bool.noConfusion (show true = false from h))
     ·exact absurd (ready_off hi) (fun h => Bool.noConfusion (show true = false from h))
     ·exact absurd (ready_off hi) (fun h => Bool.noConfusion (show true = false from h))
     ·exact absurd (ready_off hi) (fun h => Bool.noConfusion (show true = false from h))
     ·exact absurd (ready_off hi) (fun h => Bool.noConfusion (show true = false from h))
     ·exact absurd (ready_off hi) (fun h => Bool.noConfusion (show true = false from h))
     ·exact absurd (ready_off hi) (fun h => Bool.noConfusion (show true = false from h))
     ·exact absurd (ready_off hi) (fun h => Bool.noConfusion (show true = false from h))
     ·exact absurd (ready_off hi) (fun h => Bool.noConfusion (show true = false from h))
     ·exact absurd (ready_off hi) (fun h => Bool.noConfusion (show true = false from h))
     ·exact absurd (ready_off hi) (fun h => Bool.noConfusion (show true = false from h))
     ·exact absurd (ready_off hi) (fun h => Bool.noConfusion (show true = false from h))
     ·exact absurd (ready_off hi) (fun h => Bool.noConfusion (show true = false from h))
     ·exact absurd (ready_off hi) (fun h => Bool.noConfusion (show true = false from h))
     ·exact absurd (ready_off hi) (fun h => Bool.noConfusion (show true = false from h))
     ·exact absurd (ready_off hi) (fun h => Bool.noConfusion (show true = false from h))
     ·exact absurd (ready_off hi) (fun h => Bool.noConfusion (show true = false from h))
     ·exact absurd (ready_off hi) (fun h => Bool.noConfusion (show true = false from h))
     ·exact absurd (ready_off hi) (fun h => Bool.noConfusion (show true = false from h))
     ·exact absurd (ready_off hi) (fun h => Bool.noConfusion (show true = false from h))
     ·exact absurd (ready_off hi) (fun h => Bool.noConfusion (show true = false from h))
     ·exact absurd (ready_off hi) (fun h => Bool.noConfusion (show true = false from h))
     ·exact absurd (ready_off hi) (fun h => Bool.noConfusion (show true = false from h))
     ·exact absurd (ready_off hi) (fun h => Bool.noConfusion (show true = false from h))
     ·exact absurd (ready_off hi) (fun h => Bool.noConfusion (show true = false from h))
     ·exact absurd (ready_off hi) (fun h => Bool.noConfusion (show true = false from h))
     ·exact absurd (ready_off hi) (fun h => Bool.noConfusion (show true = false from h))
     ·exact .inl ⟨ready_off hi, rfl⟩
     ·exact .inr (.inl ⟨ready_off hi, rfl⟩)
     ·exact .inr (.inr (⟨ready_off hi, rfl⟩))
     ·have k38 : lb38 = true := ready_dep (d := 38) hi (by kernel_rfl); have k39 : lb39 = true := ready_dep (d := 39) hi (by kernel_rfl); have k40 : lb40 = true := ready_dep (d := 40) hi (by kernel_rfl)
      exact absurd ⟨k38, k39, k40⟩ hL
     ·exact absurd (ready_dep (d := 41) hi (by kernel_rfl)) (fun h => Bool.noConfusion (show false = true from h))
     ·exact absurd (ready_dep (d := 42) hi (by kernel_rfl)) (fun h => Bool.noConfusion (show false = true from h))
    clear hi hL
    rcases hd with ⟨rfl, rfl⟩ | ⟨rfl, rfl⟩ | ⟨rfl, rfl⟩
    ·refine step_of 38 ?_ ?_ (fun K hK => ?_)
     rotate_left 1
     ·simp only [gA,gS,gZ]; exact rfl
     rw [HAq.out]
     (try simp only [Act.put]);try simp only [sA,sZ,sS]
     go_simp
     have hgn := mFq zF
     have hq39 : lb39 = true → gxb < w1.heap.size := fun h => (F39 h).2.1.lt
     have hq40 : lb40 = true → gxc < w1.heap.size := fun h => (F40 h).2.1.lt
     obtain ⟨wn, hwn, xa_0, hb, -⟩ := new_box w1 _ rfl [.int .i64 0, .int .i64 0] 62
     rw [hwn]
     refine hK.out _ _ (sFq (cFq zF hb)) ?_
     exact (hIVq _ _ _).2 (fun CC kk => kk true lb39 lb40 (.pointer (some ⟨w1.heap.size, 0, none⟩)) lv39 lv40 w1.heap.size gxb gxc rfl (by simp only [HAq.out, Act.put, sA,sZ,sS]) (cFq zF hb) (fun _ => ⟨rfl, xa_0, hgn⟩) (fun h => ⟨(F39 h).1, (F39 h).2.1.below hb, (F39 h).2.2⟩) (fun h => ⟨(F40 h).1, (F40 h).2.1.below hb, (F40 h).2.2⟩) (fun _ h => by have := hq39 h; omega) (fun _ h => by have := hq40 h; omega) nq39_40)
    ·refine step_of 39 ?_ ?_ (fun K hK => ?_)
     rotate_left 1
     ·simp only [gA,gS,gZ]; exact rfl
     rw [HAq.out]
     (try simp only [Act.put]);try simp only [sA,sZ,sS]
     go_simp
     have hgn := mFq zF
     have hq38 : lb38 = true → gxa < w1.heap.size := fun h => (F38 h).2.1.lt
     have hq40 : lb40 = true → gxc < w1.heap.size := fun h => (F40 h).2.1.lt
     obtain ⟨wn, hwn, xb_0, hb, -⟩ := new_box w1 _ rfl [.int .i64 0, .int .i64 0] 62
     rw [hwn]
     refine hK.out _ _ (sFq (cFq zF hb)) ?_
     exact (hIVq _ _ _).2 (fun CC kk => kk lb38 true lb40 lv38 (.pointer (some ⟨w1.heap.size, 0, none⟩)) lv40 gxa w1.heap.size gxc rfl (by simp only [HAq.out, Act.put, sA,sZ,sS]) (cFq zF hb) (fun h => ⟨(F38 h).1, (F38 h).2.1.below hb, (F38 h).2.2⟩) (fun _ => ⟨rfl, xb_0, hgn⟩) (fun h => ⟨(F40 h).1, (F40 h).2.1.below hb, (F40 h).2.2⟩) (fun h _ => by have := hq38 h; omega) nq38_40 (fun _ h => by have := hq40 h; omega))
    ·refine step_of 40 ?_ ?_ (fun K hK => ?_)
     rotate_left 1
     ·simp only [gA,gS,gZ]; exact rfl
     rw [HAq.out]
     (try simp only [Act.put]);try simp only [sA,sZ,sS]
     go_simp
     have hgn := mFq zF
     have hq38 : lb38 = true → gxa < w1.heap.size := fun h => (F38 h).2.1.lt
     have hq39 : lb39 = true → gxb < w1.heap.size := fun h => (F39 h).2.1.lt
     obtain ⟨wn, hwn, xc_0, hb, -⟩ := new_box w1 _ rfl [.int .i64 0, .int .i64 0] 62
     rw [hwn]
     refine hK.out _ _ (sFq (cFq zF hb)) ?_
     exact (hIVq _ _ _).2 (fun CC kk => kk lb38 lb39 true lv38 lv39 (.pointer (some ⟨w1.heap.size, 0, none⟩)) gxa gxb w1.heap.size rfl (by simp only [HAq.out, Act.put, sA,sZ,sS]) (cFq zF hb) (fun h => ⟨(F38 h).1, (F38 h).2.1.below hb, (F38 h).2.2⟩) (fun h => ⟨(F39 h).1, (F39 h).2.1.below hb, (F39 h).2.2⟩) (fun _ => ⟨rfl, xc_0, hgn⟩) nq38_39 (fun h _ => by have := hq38 h; omega) (fun h _ => by have := hq39 h; omega))
  ·obtain rfl : k = n := by omega
   have hall : okAll P hs = true := by
    unfold okAll
    rw [List.all_eq_true]
    intro x hx
    exact HALL.out x (by have := List.mem_range.1 hx; rw [HL.out] at this; exact this)
   have hr' : r = (((cntC P hs k : Nat) : Int) == 1) := by
    rw [← HR.out]; unfold convexM; rw [hall, HL.out, Bool.true_and]
    rw [Bool.eq_iff_iff]; simp; omega
   clear hall
   subst hr'
   go_wp2
   go_ret
   exact ⟨rfl, hB_0⟩
end Go.Proofs.Ytecnnpkpgbbfkaa
