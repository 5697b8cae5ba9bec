/- mesh's readers: Real, turn. -/
import Derived.Test.YtaedaknkpfeipaaPartj
import Derived.Laws.Cover1
import Derived.Test.YtaedaknkpfeipaaParte
import Derived.StillTail
namespace Go.MagM
open Go.RowKit
def realT (T : TriM) : Bool := decide (0 ≤ T.v0 ∧ 0 ≤ T.v1 ∧ 0 ≤ T.v2)
def realM (S : List TriM) (t : Int) : Bool := match getT S t with
  | none => false
  | some T => realT T
theorem realT_gone {T : TriM} (h : goneB T = true) : realT T = false := by
  unfold goneB at h; unfold realT
  have := of_decide_eq_true h
  exact decide_eq_false (by omega)
end Go.MagM
namespace Go.Proofs.Ytaedaknkpfeipaa
open Go.RowKit Go.MagM
theorem there_quiet {mb pb pc : Nat} {ta : Option Addr} {tc : Nat} {P : List (Int × Int)} {S : List TriM} (t : Int) (w : World) (h : MeshR w mb pb pc ta tc P S) :
    Calls Try.prog 36 #[.pointer (some ⟨mb, 0, none⟩), .int .i64 t] w fun e w' => e = .returned (.bool (thereB S t)) ∧ w' = w :=
  (there_any t w h).mono fun _ _ ⟨a, b⟩ => ⟨a, b.symm⟩
set_option maxRecDepth 100000 in
set_option maxHeartbeats 4000000 in
theorem Real_any {mb pb pc : Nat} {ta : Option Addr} {tc : Nat} {P : List (Int × Int)} {S : List TriM} (t : Int) (w : World) (h : MeshR w mb pb pc ta tc P S) :
    Calls Try.prog 14 #[.pointer (some ⟨mb, 0, none⟩), .int .i64 t] w fun e w' => e = .returned (.bool (realM S t)) ∧ Drew w w' := by
  obtain ⟨b0, b1, -, -⟩ := h.box.open2
  have hsh := h.short.2
  have hc := fun n => there_quiet t _ (h.drewN n)
  obtain ⟨r, hr⟩ : ∃ r, realM S t = r := ⟨_, rfl⟩
  rw [hr]
  unfold realM at hr
  unfold thereB at hc
  cases hg : getT S t with
  | none =>
    rw [hg] at hr hc
    simp only [] at hr hc
    subst hr
    have HC := Lib.hid hc
    clear hc h hsh hg
    go_enter Try.func14, Try.ntmps14
    go_wp2
    go_quiet ((go_at_call 36; exact Calls.quiet_of_same (HC.out _)))
    go_wp2
    go_ret
    exact ⟨rfl, _, rfl⟩
  | some T =>
    rw [hg] at hr hc
    simp only [] at hr hc
    cases hgo : goneB T with
    | true =>
      rw [realT_gone hgo] at hr
      rw [hgo, Bool.not_true] at hc
      subst hr
      have HC := Lib.hid hc
      clear hc h hsh hg hgo
      go_enter Try.func14, Try.ntmps14
      go_wp2
      go_quiet ((go_at_call 36; exact Calls.quiet_of_same (HC.out _)))
      go_wp2
      go_ret
      exact ⟨rfl, _, rfl⟩
    | false =>
      rw [hgo, Bool.not_false] at hc
      obtain ⟨h0, h1, h2⟩ := getT_some hg
      obtain ⟨k, rfl⟩ : ∃ k : Nat, t = k := ⟨t.toNat, by omega⟩
      obtain ⟨tb, rfl, hbl, ht⟩ := h.tris.get h2
      simp only [Int.toNat_natCast] at ht
      have hkl : k < S.length := by omega
      have HC := Lib.hid hc
      have c0 := ht.c0; have c1 := ht.c1; have c2 := ht.c2
      obtain ⟨m, hm⟩ : ∃ m : Int, (if T.v2 < (if T.v1 < T.v0 then T.v1 else T.v0) then T.v2 else (if T.v1 < T.v0 then T.v1 else T.v0)) = m := ⟨_, rfl⟩
      have hmin : ∀ w : World, Sem.run Try.prog (Builtin.min_ #[3, 3, 3] 3 #[.int .i64 T.v0, .int .i64 T.v1, .int .i64 T.v2]) w = Result.ok (Value.int .i64 m) w := fun w => by rw [run_min_int3, hm]
      have hd : decide (0 ≤ m) = r := by
        rw [← hr, ← hm]; unfold realT; rw [decide_eq_decide]; split <;> split at * <;> omega
      clear hc hr hg hgo h h2 ht hsh hm
      go_enter Try.func14, Try.ntmps14
      go_wp2
      go_quiet ((go_at_call 36; exact Calls.quiet_of_same (HC.out _)))
      go_wp2
      go_ret
      exact ⟨rfl, _, rfl⟩
end Go.Proofs.Ytaedaknkpfeipaa
/- mesh's readers: turn. -/
namespace Go.MagM
open Go.RowKit
def getP (P : List (Int × Int)) (v : Int) : Option (Int × Int) := if 0 ≤ v then P[v.toNat]? else none
theorem getP_some {P : List (Int × Int)} {v : Int} {p : Int × Int} (h : getP P v = some p) : 0 ≤ v ∧ v < (P.length : Int) ∧ P[v.toNat]? = some p := by
  unfold getP at h
  by_cases h0 : 0 ≤ v
  · rw [if_pos h0] at h
    have := (List.getElem?_eq_some_iff.1 h).1
    exact ⟨h0, by omega, h⟩
  · rw [if_neg h0] at h; cases h
theorem getP_none {P : List (Int × Int)} {v : Int} (h : getP P v = none) : ¬ (0 ≤ v ∧ v < (P.length : Int)) := by
  unfold getP at h
  by_cases h0 : 0 ≤ v
  · rw [if_pos h0] at h
    have := List.getElem?_eq_none_iff.1 h
    omega
  · omega
def turnM (P : List (Int × Int)) (a b c : Int) : Int := match getP P a, getP P b, getP P c with
  | some p, some q, some r => (crs p.1 p.2 q.1 q.2 r.1 r.2).sign
  | _, _, _ => 0
def InPs (P : List (Int × Int)) : Prop := ∀ p, p ∈ P → InP p.1 ∧ InP p.2
end Go.MagM
namespace Go.Proofs.Ytaedaknkpfeipaa
open Go.RowKit Go.MagM
set_option maxRecDepth 100000 in
set_option maxHeartbeats 4000000 in
theorem turn_no {mb pb pc : Nat} {ta : Option Addr} {tc : Nat} {P : List (Int × Int)} {S : List TriM} (a b c : Int) (qa qb qc : Bool) (w : World) (h : MeshR w mb pb pc ta tc P S)
    (ha : decide (0 ≤ a ∧ a < (P.length : Int)) = qa) (hb : decide (0 ≤ b ∧ b < (P.length : Int)) = qb) (hc : decide (0 ≤ c ∧ c < (P.length : Int)) = qc) (hno : (qa && qb && qc) = false) :
    Calls Try.prog 30 #[.pointer (some ⟨mb, 0, none⟩), .int .i64 a, .int .i64 b, .int .i64 c] w fun e w' => e = .returned (.int .i64 0) ∧ w = w' := by
  have ca := isPoint_any a w h
  have cb := isPoint_any b w h
  have cc := isPoint_any c w h
  rw [ha] at ca; rw [hb] at cb; rw [hc] at cc
  have CA := Lib.hid ca; have CB := Lib.hid cb; have CC := Lib.hid cc
  clear ca cb cc ha hb hc h
  cases qa
  · clear hno
    go_enter Try.func30, Try.ntmps30
    go_wp2_with fail
    refine CA.out.mono ?_
    rintro e w' ⟨rfl, rfl⟩
    go_wp2
    go_ret
    exact ⟨rfl, rfl⟩
  · cases qb
    · clear hno
      go_enter Try.func30, Try.ntmps30
      go_wp2_with fail
      refine CA.out.mono ?_
      rintro e w' ⟨rfl, rfl⟩
      go_wp2_with fail
      refine CB.out.mono ?_
      rintro e w' ⟨rfl, rfl⟩
      go_wp2
      go_ret
      exact ⟨rfl, rfl⟩
    · cases qc
      · clear hno
        go_enter Try.func30, Try.ntmps30
        go_wp2_with fail
        refine CA.out.mono ?_
        rintro e w' ⟨rfl, rfl⟩
        go_wp2_with fail
        refine CB.out.mono ?_
        rintro e w' ⟨rfl, rfl⟩
        go_wp2_with fail
        refine CC.out.mono ?_
        rintro e w' ⟨rfl, rfl⟩
        go_wp2
        go_ret
        exact ⟨rfl, rfl⟩
      · simp at hno
set_option maxRecDepth 100000 in
set_option maxHeartbeats 4000000 in
theorem turn_yes {mb pb pc : Nat} {ta : Option Addr} {tc : Nat} {P : List (Int × Int)} {S : List TriM} (a b c : Nat) (a0 a1 b0 b1 c0 c1 s : Int) (w : World) (h : MeshR w mb pb pc ta tc P S) (hP : InPs P)
    (ha : P[a]? = some (a0, a1)) (hb : P[b]? = some (b0, b1)) (hc : P[c]? = some (c0, c1)) (hs : (crs a0 a1 b0 b1 c0 c1).sign = s) :
    Calls Try.prog 30 #[.pointer (some ⟨mb, 0, none⟩), .int .i64 (a : Int), .int .i64 (b : Int), .int .i64 (c : Int)] w fun e w' => e = .returned (.int .i64 s) ∧ Below w.heap.size w w' := by
  have ca := isPoint_any (a : Int) w h
  have cb := isPoint_any (b : Int) w h
  have cc := isPoint_any (c : Int) w h
  have la := (List.getElem?_eq_some_iff.1 ha).1
  have lb := (List.getElem?_eq_some_iff.1 hb).1
  have lc := (List.getElem?_eq_some_iff.1 hc).1
  rw [decide_eq_true (by omega)] at ca cb cc
  have ia := hP _ (List.mem_of_getElem? ha)
  have ib := hP _ (List.mem_of_getElem? hb)
  have ic := hP _ (List.mem_of_getElem? hc)
  have co := fun w => Orient_is a0 a1 b0 b1 c0 c1 ia.1 ia.2 ib.1 ib.2 ic.1 ic.2 hs w
  have hsh := h.short.1
  have H := Lib.hid h; have HA := Lib.hid ha; have HB := Lib.hid hb; have HC := Lib.hid hc
  have CA := Lib.hid ca; have CB := Lib.hid cb; have CC := Lib.hid cc; have CO := Lib.hid co
  clear ca cb cc h hP ha hb hc ia ib ic co hs
  go_enter Try.func30, Try.ntmps30
  go_wp2_with fail
  refine CA.out.mono ?_
  rintro e w' ⟨rfl, rfl⟩
  go_wp2_with fail
  refine CB.out.mono ?_
  rintro e w' ⟨rfl, rfl⟩
  go_wp2_with fail
  refine CC.out.mono ?_
  rintro e w' ⟨rfl, rfl⟩
  go_wp2
  have hB_0 := (Below.refl w.heap.size w).drew'
  have hm_0 := H.out.drew
  go_region_held3 (fun w' => w'.cell? ⟨mb, 0, none⟩ = some (.slice (some ⟨pb, 0, none⟩) P.length pc) ∧ w'.cell? ⟨pb, a * 2, none⟩ = some (.int .i64 a0) ∧ w'.cell? ⟨pb, a * 2 + 1, none⟩ = some (.int .i64 a1) ∧ w'.cell? ⟨pb, b * 2, none⟩ = some (.int .i64 b0) ∧ w'.cell? ⟨pb, b * 2 + 1, none⟩ = some (.int .i64 b1) ∧ w'.cell? ⟨pb, c * 2, none⟩ = some (.int .i64 c0) ∧ w'.cell? ⟨pb, c * 2 + 1, none⟩ = some (.int .i64 c1))
    (first | with_reducible exact ⟨hm_0.box.c0, (hm_0.pt HA.out).1, (hm_0.pt HA.out).2, (hm_0.pt HB.out).1, (hm_0.pt HB.out).2, (hm_0.pt HC.out).1, (hm_0.pt HC.out).2⟩ | with_reducible exact ⟨hm_1.box.c0, (hm_1.pt HA.out).1, (hm_1.pt HA.out).2, (hm_1.pt HB.out).1, (hm_1.pt HB.out).2, (hm_1.pt HC.out).1, (hm_1.pt HC.out).2⟩ | fail)
    (first | (go_at_call 12; (with_reducible refine (CO.out _).mono ?_); rintro e w4 ⟨rfl, hb4⟩; have hB_1 := hB_0.trans (hb4.mono hB_0.size); have hm_1 := hm_0.below hb4))
  go_wp2
  go_ret
  exact ⟨rfl, hB_1⟩
theorem mturn_any {mb pb pc : Nat} {ta : Option Addr} {tc : Nat} {P : List (Int × Int)} {S : List TriM} (a b c : Int) (w : World) (h : MeshR w mb pb pc ta tc P S) (hP : InPs P) :
    Calls Try.prog 30 #[.pointer (some ⟨mb, 0, none⟩), .int .i64 a, .int .i64 b, .int .i64 c] w fun e w' => e = .returned (.int .i64 (turnM P a b c)) ∧ Below w.heap.size w w' := by
  have no : turnM P a b c = 0 → ¬ ((0 ≤ a ∧ a < (P.length : Int)) ∧ (0 ≤ b ∧ b < (P.length : Int)) ∧ (0 ≤ c ∧ c < (P.length : Int))) → Calls Try.prog 30 #[.pointer (some ⟨mb, 0, none⟩), .int .i64 a, .int .i64 b, .int .i64 c] w fun e w' => e = .returned (.int .i64 (turnM P a b c)) ∧ Below w.heap.size w w' := by
    intro e hn
    rw [e]
    refine (turn_no a b c _ _ _ w h rfl rfl rfl ?_).mono fun e w' ⟨h1, h2⟩ => ⟨h1, by subst h2; exact Below.refl _ _⟩
    rw [← Bool.decide_and, ← Bool.decide_and]
    exact decide_eq_false (fun k => hn ⟨k.1.1, k.1.2, k.2⟩)
  unfold turnM at no ⊢
  cases ha : getP P a with
  | none => rw [ha] at no; exact no rfl (fun k => getP_none ha k.1)
  | some p =>
    rw [ha] at no
    cases hb : getP P b with
    | none => rw [hb] at no; exact no rfl (fun k => getP_none hb k.2.1)
    | some q =>
      rw [hb] at no
      cases hc : getP P c with
      | none => rw [hc] at no; exact no rfl (fun k => getP_none hc k.2.2)
      | some r =>
        obtain ⟨a0, a1, a2⟩ := getP_some ha
        obtain ⟨b0, b1, b2⟩ := getP_some hb
        obtain ⟨c0, c1, c2⟩ := getP_some hc
        obtain ⟨a', rfl⟩ : ∃ k : Nat, a = k := ⟨a.toNat, by omega⟩
        obtain ⟨b', rfl⟩ : ∃ k : Nat, b = k := ⟨b.toNat, by omega⟩
        obtain ⟨c', rfl⟩ : ∃ k : Nat, c = k := ⟨c.toNat, by omega⟩
        exact turn_yes a' b' c' _ _ _ _ _ _ _ w h hP a2 b2 c2 rfl
end Go.Proofs.Ytaedaknkpfeipaa
/- mesh's checks of one triangle: formed. -/
namespace Go.MagM
open Go.RowKit
def formedT (P : List (Int × Int)) (S : List TriM) (T : TriM) : Bool :=
  if placeT T (-1) = -1 then decide (0 < turnM P T.v0 T.v1 T.v2)
  else if placeT T (-1) = 0 then realM S T.n0 && !T.f1 && !T.f2
  else if placeT T (-1) = 1 then realM S T.n1 && !T.f2 && !T.f0
  else realM S T.n2 && !T.f0 && !T.f1
theorem placeT_cases (T : TriM) (v : Int) : placeT T v = -1 ∨ placeT T v = 0 ∨ placeT T v = 1 ∨ placeT T v = 2 := by
  unfold placeT; split
  · simp
  · split
    · simp
    · split <;> simp
end Go.MagM
namespace Go.Proofs.Ytaedaknkpfeipaa
open Go.RowKit Go.MagM
end Go.Proofs.Ytaedaknkpfeipaa
/- mesh's checks of one triangle: linked. -/
namespace Go.MagM
open Go.RowKit
theorem At9i.n {w : World} {b o : Nat} {T : TriM} (h : At9i w b o T) {j : Nat} (hj : j < 3) : w.cell? ⟨b, o + 3 + j, none⟩ = some (.int .i64 (T.n j)) := by
  obtain rfl | rfl | rfl : j = 0 ∨ j = 1 ∨ j = 2 := by omega
  · exact h.c3
  · exact h.c4
  · exact h.c5
theorem At9i.f {w : World} {b o : Nat} {T : TriM} (h : At9i w b o T) {j : Nat} (hj : j < 3) : w.cell? ⟨b, o + 6 + j, none⟩ = some (.bool (T.f j)) := by
  obtain rfl | rfl | rfl : j = 0 ∨ j = 1 ∨ j = 2 := by omega
  · exact h.c6
  · exact h.c7
  · exact h.c8
theorem At9i.v {w : World} {b o : Nat} {T : TriM} (h : At9i w b o T) {j : Nat} (hj : j < 3) : w.cell? ⟨b, o + j, none⟩ = some (.int .i64 (T.v j)) := by
  obtain rfl | rfl | rfl : j = 0 ∨ j = 1 ∨ j = 2 := by omega
  · exact h.c0
  · exact h.c1
  · exact h.c2
/-- Across edge i of t, which is T, lies that edge, the other way round, which tells the same of it. -/
def linkI (S : List TriM) (t : Nat) (T : TriM) (i : Nat) : Bool := match getT S (T.n i) with
  | none => false
  | some U => !goneB U && (edgeT U (edgeV T i).2 (edgeV T i).1 != -1) && (U.n (edgeT U (edgeV T i).2 (edgeV T i).1).toNat == (t : Int)) && (U.f (edgeT U (edgeV T i).2 (edgeV T i).1).toNat == T.f i)
def linkedT (S : List TriM) (t : Nat) (T : TriM) : Bool := linkI S t T 0 && linkI S t T 1 && linkI S t T 2
theorem linkedT_yes {S : List TriM} {t : Nat} {T : TriM} (h : ∀ i : Nat, i < 3 → linkI S t T i = true) : linkedT S t T = true := by
  unfold linkedT; rw [h 0 (by omega), h 1 (by omega), h 2 (by omega)]; rfl
theorem edgeT_cases (T : TriM) (a b : Int) : edgeT T a b = -1 ∨ ∃ j : Nat, j < 3 ∧ edgeT T a b = (j : Int) ∧ edgeV T j = (a, b) := by
  unfold edgeT
  split
  · exact .inr ⟨0, by omega, rfl, by assumption⟩
  · split
    · exact .inr ⟨1, by omega, rfl, by assumption⟩
    · split
      · exact .inr ⟨2, by omega, rfl, by assumption⟩
      · exact .inl rfl
end Go.MagM
namespace Go.Proofs.Ytaedaknkpfeipaa
open Go.RowKit Go.MagM
theorem index3_run (T : TriM) (i : Nat) (hi : i < 3) (w : World) : (Instr.index 23 (.agg #[.int .i64 T.n0, .int .i64 T.n1, .int .i64 T.n2]) (.int .i64 (i : Int))).run Try.prog w = .ok (.int .i64 (T.n i)) w := by
  obtain rfl | rfl | rfl : i = 0 ∨ i = 1 ∨ i = 2 := by omega
  all_goals kernel_rfl
end Go.Proofs.Ytaedaknkpfeipaa
/- A region that draws its order and writes what it reads: what is held hangs on what is listed. Over any program. -/
namespace Go.MagM
open Go
section
variable {P : Program} {ops : Array Oper} {Q : Exit → Act → World → Prop} {md : Region.Mode} {S : Array Bool → World → Prop}
/-- What is listed has all listed that it waits for. -/
def Cl (md : Region.Mode) (ops : Array Oper) (l : Array Bool) : Prop :=
  l.size = ops.size ∧ ∀ (j : Nat) (o : Oper), ops[j]? = some o → l.getD j false = true → ∀ e ∈ o.after, Region.binds md e = true → l.getD e.on false = true
theorem Cl.start : Cl md ops (Array.replicate ops.size false) :=
  ⟨by simp, fun j o _ h => by rw [getD_replicate_false] at h; cases h⟩
theorem Cl.step {l : Array Bool} {i : Nat} (h : Cl md ops l) (hi : i ∈ Region.ready md ops l) : Cl md ops (l.setIfInBounds i true) := by
  refine ⟨by simpa using h.1, fun j o ho hj e he hb => ?_⟩
  obtain ⟨_, o', ho', hall⟩ := mem_ready.1 hi
  by_cases hij : i = j
  · subst hij
    rw [ho'] at ho
    cases ho
    exact getD_set_true (hall e he hb)
  · rw [getD_set_ne false hij] at hj
    exact getD_set_true (h.2 j o ho hj e he hb)
/-- What waits for something that is not listed is not listed. -/
theorem Cl.not {l : Array Bool} {i t : Nat} (h : Cl md ops l) (ht : Region.waitsFor md ops t i = true) (hi : l.getD i true = false) : l.getD t true = false := by
  obtain ⟨o, ho, e, he, hb, rfl⟩ := Region.waitsFor_spec ht
  cases hc : l.getD t true
  · rfl
  · have hlt : t < l.size := by rw [h.1]; exact (Array.getElem?_eq_some_iff.1 ho).1
    have h1 : l.getD t false = true := by simp [hlt] at hc ⊢; exact hc
    have h2 := h.2 t o ho h1 e he hb
    rw [getD_both hi] at h2
    cases h2
/-- Whatever order is picked from here on; what is held behind each operation hangs on what is listed. -/
def wpAnyG (P : Program) (md : Region.Mode) (ops : Array Oper) (Q : Exit → Act → World → Prop) (S : Array Bool → World → Prop) : Nat → Array Bool → Act → World → Prop
  | 0, l, a, w => Region.ready md ops l = [] ∧ Q .normal a w
  | fuel + 1, l, a, w => (Region.ready md ops l = [] → Q .normal a w) ∧
    ∀ i ∈ Region.ready md ops l, wpOp P ops Q i (fun a' w' => S (l.setIfInBounds i true) w' ∧ wpAnyG P md ops Q S fuel (l.setIfInBounds i true) a' w') a w
theorem wpAny_of_G : ∀ (fuel : Nat) (l : Array Bool) (a : Act) (w : World), wpAnyG P md ops Q S fuel l a w → wpAny P md ops Q fuel l a w
  | 0, _, _, _, h => h
  | fuel + 1, _, _, _, h => ⟨h.1, fun i hi => wpOp_mono (fun _ _ h' => wpAny_of_G fuel _ _ _ h'.2) (h.2 i hi)⟩
/-- The worlds in which an operation may come up. -/
def Ahead (md : Region.Mode) (ops : Array Oper) (S : Array Bool → World → Prop) (i : Nat) (w : World) : Prop := ∃ l, Cl md ops l ∧ l.getD i true = false ∧ S l w
theorem wpAnyG_first {i : Nat} {oi : Oper} {v : Value} (hi : ops[i]? = some oi) (hsel : ∀ (j : Nat) (o : Oper) cs b, ops[j]? = some o → o.op ≠ .select cs b)
    (hQ : ∀ c a w, Q (.panic c) (a.put oi.dst v) w → Q (.panic c) a w) (hirr : ∀ l w, S (l.setIfInBounds i true) w ↔ S l w) :
    ∀ (fuel : Nat) (l : Array Bool) (a : Act) (w : World),
      (∀ j oj, ops[j]? = some oj → j ≠ i → l.getD j true = false → (∀ e ∈ oj.after, Region.binds md e = true → e.on ≠ i) → oi.apart ops oj = true) →
      i ∈ Region.ready md ops l → Cl md ops l → YieldsIf P ops (Ahead md ops S i) oi v a → S l w →
      wpAnyG P md ops Q S fuel (l.setIfInBounds i true) (a.put oi.dst v) w → wpAnyG P md ops Q S (fuel + 1) l a w := by
  intro fuel
  induction fuel with
  | zero =>
    intro l a w _ hr hcl hy hS H
    refine ⟨fun h => (by rw [h] at hr; cases hr), fun j hj => ?_⟩
    by_cases hji : j = i
    · subst hji; exact hy.wpOp hi ⟨l, hcl, (mem_ready.1 hr).1, hS⟩ ⟨(hirr _ _).2 hS, H⟩
    · have := ready_mono hj hji
      rw [H.1] at this
      cases this
  | succ fuel ih =>
    intro l a w hfree hr hcl hy hS H
    refine ⟨fun h => (by rw [h] at hr; cases hr), fun j hj => ?_⟩
    by_cases hji : j = i
    · subst hji; exact hy.wpOp hi ⟨l, hcl, (mem_ready.1 hr).1, hS⟩ ⟨(hirr _ _).2 hS, H⟩
    · have h1 := H.2 j (ready_mono hj hji)
      obtain ⟨hjun, oj, hoj, hall⟩ := mem_ready.1 hj
      have hnot : ∀ e ∈ oj.after, Region.binds md e = true → e.on ≠ i := fun e he hb heq => by
        have h1 := hall e he hb
        have h0 := (mem_ready.1 hr).1
        rw [heq, getD_both h0] at h1
        cases h1
      have h2 := wpOp_putIf hoj (hfree j oj hoj hji hjun hnot) (fun cs b => hsel i oi cs b hi) (fun cs b => hsel j oj cs b hoj) hQ hy h1
      have hfree' : ∀ k ok, ops[k]? = some ok → k ≠ i → (l.setIfInBounds j true).getD k true = false →
          (∀ e ∈ ok.after, Region.binds md e = true → e.on ≠ i) → oi.apart ops ok = true := fun k ok hk hki hun hno => by
        refine hfree k ok hk hki ?_ hno
        by_cases hjk : j = k
        · subst hjk; exact hjun
        · rw [getD_set_ne true hjk] at hun; exact hun
      refine wpOp_mono (fun a' w' h3 => ?_) h2
      have hS' : S (l.setIfInBounds j true) w' := by
        have := h3.2.1
        rw [Array.setIfInBounds_comm _ _ (Ne.symm hji)] at this
        exact (hirr _ _).1 this
      refine ⟨hS', ih (l.setIfInBounds j true) a' w' hfree' (ready_mono hr (Ne.symm hji)) (hcl.step hj) h3.1 hS' ?_⟩
      rw [Array.setIfInBounds_comm _ _ hji]
      exact h3.2.2
/-- Operation i yields v in each world in which it may come up. -/
theorem reg_takeG (i : Nat) (oi : Oper) (v : Value) {fuel : Nat} {l : Array Bool} {a : Act} {w : World} (hi : ops[i]? = some oi)
    (hs : Region.noSelect ops = true) (hf : Region.free md ops l i = true) (hr : (Region.ready md ops l).contains i = true)
    (hQ : ∀ c a w, Q (.panic c) (a.put oi.dst v) w → Q (.panic c) a w) (hirr : ∀ l w, S (l.setIfInBounds i true) w ↔ S l w)
    (hw : Region.wanted oi (yielded ops a.tmps) = true) (hy : ∀ w, Ahead md ops S i w → (execOp a.eval oi).run P w = .ok (.value v) w) (hcl : Cl md ops l) (hS : S l w)
    (h : Cl md ops (l.setIfInBounds i true) → S (l.setIfInBounds i true) w → wpAnyG P md ops Q S fuel (l.setIfInBounds i true) (a.put oi.dst v) w) : wpAnyG P md ops Q S (fuel + 1) l a w :=
  have hr' : i ∈ Region.ready md ops l := by simpa using hr
  wpAnyG_first hi (Region.noSelect_spec hs) hQ hirr fuel l a w (Region.free_spec hi hf) hr' hcl (Or.inl ⟨hw, hy⟩) hS (h (hcl.step hr') ((hirr _ _).2 hS))
/-- Operation i alone comes up next. -/
theorem reg_callG (i : Nat) (o : Oper) {fuel : Nat} {l : Array Bool} {a : Act} {w : World} (hr : Region.ready md ops l = [i]) (ho : ops[i]? = some o)
    (h : ∀ K' : Act → World → Prop, Shut (∀ a w, S (l.setIfInBounds i true) w → wpAnyG P md ops Q S fuel (l.setIfInBounds i true) a w → K' a w) → if Region.wanted o (yielded ops a.tmps) = true then Oper.wp P o a w K' Q else K' (a.put o.dst undef) w) :
    wpAnyG P md ops Q S (fuel + 1) l a w := by
  refine ⟨fun h0 => absurd (hr ▸ h0) (by simp), ?_⟩
  rw [hr]
  intro j hj
  obtain rfl : j = i := by simpa using hj
  exact wpOp_step ho (fun K' hK => h K' (fun a w hS hW => hK a w ⟨hS, hW⟩))
theorem wpAnyG_done {l : Array Bool} {a : Act} {w : World} (hr : Region.ready md ops l = []) (h : Q .normal a w) : ∀ fuel, wpAnyG P md ops Q S fuel l a w
  | 0 => ⟨hr, h⟩
  | _ + 1 => ⟨fun _ => h, by rw [hr]; simp⟩
theorem wp_region_G {id : Nat} {a : Act} {w : World} (S : Array Bool → World → Prop) (n : Nat) (l : Array Bool) (hm : P.follows .mixedOrders = true) (hn : ops.size = n) (hl : Array.replicate ops.size false = l) (hS : S l w.drew)
    (h : Cl .any ops l → S l w.drew → wpAnyG P .any ops Q S n l a w.drew) : (Code.region id ops true).wp P Q a w := by
  subst hl hn
  exact wp_region_any hm (wpAny_of_G _ _ _ _ (h Cl.start hS))
end
end Go.MagM
/- mesh's check of a border: convex. -/
namespace Go.MagM
open Go.RowKit
/-- Two cells at o. -/
structure At2 (w : World) (b o : Nat) (u v : Value) : Prop where
  c0 : w.cell? ⟨b, o, none⟩ = some u
  c1 : w.cell? ⟨b, o + 1, none⟩ = some v
theorem At2.below {w w' : World} {b o : Nat} {u v : Value} (h : At2 w b o u v) (hb : Below w.heap.size w w') : At2 w' b o u v := by
  have hl := World.block_lt_of_cell? w _ h.c0
  exact ⟨(hb.cell (p := ⟨b, o, none⟩) hl).trans h.c0, (hb.cell (p := ⟨b, o + 1, none⟩) hl).trans h.c1⟩
theorem At2.drew {w : World} {b o : Nat} {u v : Value} (h : At2 w b o u v) : At2 w.drew b o u v := ⟨h.c0, h.c1⟩
/-- One cell at o. -/
structure At1 (w : World) (b o : Nat) (u : Value) : Prop where
  c0 : w.cell? ⟨b, o, none⟩ = some u
theorem At1.below {w w' : World} {b o : Nat} {u : Value} (h : At1 w b o u) (hb : Below w.heap.size w w') : At1 w' b o u :=
  ⟨(hb.cell (p := ⟨b, o, none⟩) (World.block_lt_of_cell? w _ h.c0)).trans h.c0⟩
theorem At1.drew {w : World} {b o : Nat} {u : Value} (h : At1 w b o u) : At1 w.drew b o u := ⟨h.c0⟩
theorem At2.far {w : World} {b o g : Nat} {u v : Value} (h : At2 w b o u v) (hne : b ≠ g) (i : Nat) (x : Value) : At2 (w.setCell ⟨g, i, none⟩ x) b o u v := by
  have ne : ∀ j, (⟨g, i, none⟩ : Addr) ≠ ⟨b, j, none⟩ := by intro j k; injection k with k1; exact hne k1.symm
  refine ⟨?_, ?_⟩
  · rw [World.cell?_setCell_other _ _ _ _ (by first | exact ne _ | exact (ne _).symm)]; exact h.c0
  · rw [World.cell?_setCell_other _ _ _ _ (by first | exact ne _ | exact (ne _).symm)]; exact h.c1
theorem At1.far {w : World} {b o g : Nat} {u : Value} (h : At1 w b o u) (hne : b ≠ g) (i : Nat) (x : Value) : At1 (w.setCell ⟨g, i, none⟩ x) b o u := by
  have ne : ∀ j, (⟨g, i, none⟩ : Addr) ≠ ⟨b, j, none⟩ := by intro j k; injection k with k1; exact hne k1.symm
  refine ⟨?_⟩
  rw [World.cell?_setCell_other _ _ _ _ (by first | exact ne _ | exact (ne _).symm)]; exact h.c0
theorem At2.farFrom {b o g : Nat} {u v : Value} (hne : b ≠ g) : ∀ (xs : List Value) (i : Nat) {w : World}, At2 w b o u v → At2 (setAll w g i xs) b o u v
  | [], _, _, h => h
  | x :: xs, i, _, h => At2.farFrom hne xs (i + 1) (h.far hne i x)
theorem At2.farAll {w : World} {b o g' : Nat} {u v : Value} (h : At2 w b o u v) (hne : b ≠ g') (xs : List Value) : At2 (setAll w g' 0 xs) b o u v := At2.farFrom hne xs 0 h
theorem At1.farFrom {b o g : Nat} {u : Value} (hne : b ≠ g) : ∀ (xs : List Value) (i : Nat) {w : World}, At1 w b o u → At1 (setAll w g i xs) b o u
  | [], _, _, h => h
  | x :: xs, i, _, h => At1.farFrom hne xs (i + 1) (h.far hne i x)
theorem At1.farAll {w : World} {b o g' : Nat} {u : Value} (h : At1 w b o u) (hne : b ≠ g') (xs : List Value) : At1 (setAll w g' 0 xs) b o u := At1.farFrom hne xs 0 h
/-- Block b holds these numbers of points. -/
def NatsIn (w : World) (b : Nat) (l : List Nat) : Prop := ∀ (i v : Nat), l[i]? = some v → w.cell? ⟨b, i, none⟩ = some (.int .i64 (v : Int))
theorem NatsIn.below {w w' : World} {b : Nat} {l : List Nat} (h : NatsIn w b l) (hb : Below w.heap.size w w') : NatsIn w' b l := by
  intro i v hi
  have h1 := h i v hi
  exact (hb.cell (p := ⟨b, i, none⟩) (World.block_lt_of_cell? w _ h1)).trans h1
theorem mod_two (k n : Nat) : ((k : Int) + 2).tmod (n : Int) = (((k + 2) % n : Nat) : Int) := by
  rw [show (k : Int) + 2 = ((k + 2 : Nat) : Int) by omega]; exact (Int.ofNat_tmod _ _).symm
def ptA (P : List (Int × Int)) (v : Nat) : Int × Int := P[v]?.getD (0, 0)
theorem ptA_at {P : List (Int × Int)} {v : Nat} (h : v < P.length) : P[v]? = some ((ptA P v).1, (ptA P v).2) := by
  unfold ptA; rw [List.getElem?_eq_getElem h]; rfl
def natA (l : List Nat) (i : Nat) : Nat := l[i]?.getD 0
end Go.MagM
namespace Go.Proofs.Ytaedaknkpfeipaa
open Go.RowKit Go.MagM
/-- A point strictly between two others, on their line. -/
def betP (a b v : Int × Int) : Bool := decide (¬ (a.1 = b.1 ∧ a.2 = b.2) ∧ ¬ (a.1 = v.1 ∧ a.2 = v.2)) && onP a.1 a.2 b.1 b.2 v.1 v.2
/-- Three points of a border: it turns left, or goes on straight. -/
def okC (a b c : Int × Int) : Bool := decide (0 < crs a.1 a.2 b.1 b.2 c.1 c.2) || betP b a c
def riseC (a b c : Int × Int) : Bool := decide (b.2 ≤ a.2 ∧ b.2 < c.2)
def corC (P : List (Int × Int)) (hs : List Nat) (i : Nat) : Int × Int := ptA P (natA hs (i % hs.length))
def cntC (P : List (Int × Int)) (hs : List Nat) : Nat → Nat
  | 0 => 0
  | k + 1 => cntC P hs k + if riseC (corC P hs k) (corC P hs (k + 1)) (corC P hs (k + 2)) = true then 1 else 0
def okAll (P : List (Int × Int)) (hs : List Nat) : Bool := (List.range hs.length).all fun k => okC (corC P hs k) (corC P hs (k + 1)) (corC P hs (k + 2))
def convexM (P : List (Int × Int)) (hs : List Nat) : Bool := okAll P hs && cntC P hs hs.length == 1
end Go.Proofs.Ytaedaknkpfeipaa
