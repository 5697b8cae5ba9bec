/- A region that draws its order, in a round of a loop over a function: by the laws for regions elsewhere. Over any program. -/
import Derived.Test.YtaedaknkpfeipaaPartk
import Derived.Test.YtaedaknkpfeipaaParte
import Derived.StillTail
import Derived.RangeFuncCalls
import Derived.OwnWalkIn
import Derived.OrdersIn
import Derived.Deep.RegionHeld3
import Derived.Test.YtaedaknkpfeipaaMeshN
import Derived.Test.YtaedaknkpfeipaaPartm
namespace Go.MagM
open Go
section
variable {P : Program} {l n : Nat} {md : Region.Mode} {ops : Array Oper} {Q : Exit → Act → World → Prop}
/-- No operation is a defer statement. -/
def noDefers (ops : Array Oper) : Bool := ops.all fun o => match o.op with
  | .defer _ => false
  | _ => true
theorem noDefers_at {i : Nat} {o : Oper} (h : noDefers ops = true) (ho : ops[i]? = some o) : ∀ c, o.op ≠ .defer c := by
  intro c e
  unfold noDefers at h
  rw [Array.all_eq_true_iff_forall_mem] at h
  have := h o (Array.mem_of_getElem? ho)
  rw [e] at this
  cases this
/-- Q where the region has run to its end; nothing else comes. -/
def OnlyN (Q : Exit → Act → World → Prop) : Exit → Act → World → Prop
  | .normal, a, w => Q .normal a w
  | _, _, _ => False
theorem OnlyN.normal {a : Act} {w : World} (h : Q .normal a w) : OnlyN Q .normal a w := h
theorem onlyN_out {P : Prop} (h : LetsOut (OnlyN Q)) : P := by
  obtain ⟨a, w, h⟩ := h
  exact (h : False).elim
theorem wpOp_round {i : Nat} {K K' : Act → World → Prop} {a : Act} {w : World} (hd : noDefers ops = true) (hK : ∀ a w, K a w → K' a w) (h : wpOp P ops (OnlyN Q) i K a w) : wpOpIn (Fence.wide.inRound l) n P ops Q i K' a w := by
  unfold wpOp at h
  unfold wpOpIn
  cases ho : ops[i]? with
  | none => rw [ho] at h; exact hK _ _ h
  | some o =>
    rw [ho] at h
    simp only [] at h ⊢
    split at h
    · rename_i hw
      rw [if_pos hw]
      rcases h with h | ⟨_, h⟩
      · refine ⟨fun _ _ => trivial, ?_⟩
        rw [Oper.semAt_eq _ _ _ (noDefers_at hd ho)]
        unfold Oper.wp at h
        generalize (execOp a.eval o).run P w = r at h
        cases r with
        | ok x w' =>
          cases x with
          | value v => exact hK _ _ h
          | skip => exact hK _ _ h
          | defer d => exact hK _ _ h
          | enter f args =>
            refine ⟨(fun h => by cases h), ?_⟩
            refine (CallsIn.inRound l (callsIn_wide.2 h)).mono fun e w'' he => ?_
            cases e with
            | returned v => exact hK _ _ he
            | panicked c => exact he.elim
            | outgrown => exact onlyN_out he
          | row row args => exact ⟨(fun h => by cases h), fun c cs _ => let ⟨v, w2, r, s⟩ := h c cs; ⟨v, w2, hK _ _ r, stepsIn_wide.2 s⟩⟩
          | _ => exact (h : False).elim
        | halt x w' =>
          cases x <;> exact (h : False).elim
      · exact onlyN_out h
    · rename_i hw
      rw [if_neg hw]
      exact ⟨fun _ _ => trivial, hK _ _ h⟩
theorem wpAny_round (hd : noDefers ops = true) : ∀ (fuel : Nat) (listed : Array Bool) (a : Act) (w : World), wpAny P md ops (OnlyN Q) fuel listed a w → wpAnyIn (Fence.wide.inRound l) n P md ops Q fuel listed a w
  | 0, _, _, _, h => h
  | fuel + 1, _, _, _, h => ⟨h.1, fun i hi => wpOp_round hd (fun a w k => wpAny_round hd fuel _ a w k) (h.2 i hi)⟩
theorem rnd_region_any {id : Nat} {a : Act} {w : World} (hm : P.follows .mixedOrders = true) (hd : noDefers ops = true)
    (h : wpAny P .any ops (OnlyN Q) ops.size (Array.replicate ops.size false) a w.drew) : (Code.region id ops true).wpIn (Fence.wide.inRound l) n P Q a w :=
  wpIn_region_any hm (wpAny_round hd _ _ _ _ h)
theorem rnd_region_held {S : World → Prop} {id : Nat} {a : Act} {w : World} (hm : P.follows .mixedOrders = true) (hd : noDefers ops = true) (hS : S w.drew)
    (h : S w.drew → wpAnyH P .any ops (OnlyN Q) S ops.size (Array.replicate ops.size false) a w.drew) : (Code.region id ops true).wpIn (Fence.wide.inRound l) n P Q a w :=
  rnd_region_any hm hd (wpAny_of_held _ _ _ _ (h hS))
end
end Go.MagM
/- mesh's readers: round, border. -/
namespace Go.MagM
open Go.RowKit
theorem owns_turned {w w' : World} {base g : Nat} {e : TypeId} {size : Nat} {v : Value} {n : Nat} {xs : List Value} (h : w.ownsRow base e size v n xs) (ht : Turned w w' g) (hne : v.ownBlock ≠ some g) : w'.ownsRow base e size v n xs := by
  refine ⟨h.1, ?_⟩
  rcases h.2 with hn | ⟨g', cap, cur, rfl, h2, h3, h4⟩
  · exact .inl hn
  · exact .inr ⟨g', cap, cur, rfl, h2, (ht.block g' (fun e => hne (by rw [e]; rfl))).trans h3, h4⟩
theorem owns_blow {w w' : World} {base : Nat} {e : TypeId} {size : Nat} {v : Value} {n : Nat} {xs : List Value} (h : w.ownsRow base e size v n xs) (hb : Below w.heap.size w w') : w'.ownsRow base e size v n xs := by
  refine ⟨h.1, ?_⟩
  rcases h.2 with hn | ⟨g, cap, cur, hv, hg, hc, r⟩
  · exact .inl hn
  · exact .inr ⟨g, cap, cur, hv, hg, by rw [hb.block g (Array.getElem?_eq_some_iff.1 hc).1]; exact hc, r⟩
/-- A row of one cell an element, as a box. -/
theorem owns_box {w : World} {base g : Nat} {e : TypeId} {size n c : Nat} {xs : List Value} (h : w.ownsRow base e size (.slice (some ⟨g, 0, none⟩) n c) n xs) : Box w g xs := by
  rcases h.2 with ⟨h0, _⟩ | ⟨g', cap, cur, hv, hb, hg, h4, h5, h6, h7⟩
  · cases h0
  · simp only [Value.slice.injEq, Option.some.injEq] at hv
    obtain ⟨hv, -, -⟩ := hv
    injection hv with hv
    subst hv
    refine ⟨fun i u hi => ?_, fun i u hi => ?_⟩
    · have := h.cells (g := g) rfl i u hi
      rwa [addr_add, Nat.zero_add] at this
    · unfold World.frozen?; rw [hg]; simp
/-- The point of triangle t at place k. -/
def vAt (S : List TriM) (t k : Nat) : Int := match S[t]? with
  | some T => T.v k
  | none => 0
/-- The points that come behind those that are gone round. -/
def rimZ (S : List TriM) (l : List (Nat × Nat)) : List Int := l.map fun x => vAt S x.1 ((x.2 + 1) % 3)
def borderM (S : List TriM) : List Int := (rimZ S (walkM S (-1) (firstM S (-1)) S.length (firstM S (-1)))).reverse
theorem heap_set_far (w : World) (g i b : Nat) (v : Value) (h : b ≠ g) : (w.setCell ⟨g, i, none⟩ v).heap[b]? = w.heap[b]? := by
  simp only [World.setCell, Array.getElem?_modify]
  rw [if_neg (Ne.symm h)]
theorem keepB_own {β : Type} {Pb : Nat → Prop} {W0 : World} (hP : ∀ b, Pb b → b < W0.heap.size) : OwnFrom W0.heap.size (fun (_ : β) W => KeepB Pb W0 W) := by
  intro s X Y row hs hg hr b hb
  have h1 := hs b hb
  have h2 := hP b hb
  have h3 : X.heap[b]? = some W0.heap[b] := h1.trans (Array.getElem?_eq_getElem h2)
  refine (hg.block b (Array.getElem?_eq_some_iff.1 h3).1 (fun e => ?_)).trans h1
  have := (hr b e.symm).1
  omega
end Go.MagM
namespace Go.Proofs.Ytaedaknkpfeipaa
open Go.RowKit Go.MagM Go.Shelf
attribute [local go_sem] Oper.semAt_some
end Go.Proofs.Ytaedaknkpfeipaa
/- mesh's iterator over all real triangles; the statements' has. -/
namespace Go.MagM
open Go.RowKit
/-- A real triangle, and its number. -/
abbrev RA (S : List TriM) := { x : Nat × TriM // S[x.1]? = some x.2 ∧ realT x.2 = true }
def triV (T : TriM) : Value := .agg #[.int .i64 T.v0, .int .i64 T.v1, .int .i64 T.v2, .int .i64 T.n0, .int .i64 T.n1, .int .i64 T.n2, .bool T.f0, .bool T.f1, .bool T.f2]
def encA {S : List TriM} (x : RA S) : Array Value := #[.int .i64 (x.1.1 : Int), triV x.1.2]
/-- The real ones among the first k. -/
def realsK (S : List TriM) : Nat → List (Nat × TriM)
  | 0 => []
  | k + 1 => realsK S k ++ (match S[k]? with
    | some T => if realT T = true then [(k, T)] else []
    | none => [])
theorem realsK_yes {S : List TriM} {k : Nat} {T : TriM} (h : S[k]? = some T) (hr : realT T = true) : realsK S (k + 1) = realsK S k ++ [(k, T)] := by
  rw [realsK, h]; simp only []; rw [if_pos hr]
theorem realsK_no {S : List TriM} {k : Nat} {T : TriM} (h : S[k]? = some T) (hr : realT T = false) : realsK S (k + 1) = realsK S k := by
  rw [realsK, h]; simp only []; rw [if_neg (by rw [hr]; decide), List.append_nil]
theorem realsK_len (S : List TriM) : ∀ k, (realsK S k).length ≤ k
  | 0 => Nat.le_refl _
  | k + 1 => by
    have := realsK_len S k
    rw [realsK, List.length_append]
    cases S[k]? with
    | none => simp; omega
    | some T => simp only []; split <;> simp <;> omega
theorem realsK_pre (S : List TriM) : ∀ m k, k ≤ m → realsK S k <+: realsK S m
  | 0, k, h => by obtain rfl : k = 0 := by omega
                  exact List.prefix_refl _
  | m + 1, k, h => by
    rcases Nat.lt_or_ge k (m + 1) with g | g
    · exact (realsK_pre S m k (by omega)).trans ⟨_, rfl⟩
    · obtain rfl : k = m + 1 := by omega
      exact List.prefix_refl _
theorem grown_drewN (w : World) (q : Nat) (row : Option Nat) : w.grownBy (w.drewN q) row := ⟨rfl, rfl, rfl, Nat.le_refl _, fun _ _ _ => rfl⟩
end Go.MagM
namespace Go.Proofs.Ytaedaknkpfeipaa
open Go.RowKit Go.MagM Go.Shelf
attribute [local go_sem] Oper.semAt_some
set_option maxRecDepth 100000 in
set_option maxHeartbeats 8000000 in
theorem all1_any (n : Nat) (hn : 1 ≤ n) (l Bm : Nat) (Pb : Nat → Prop) {mb pb pc : Nat} {ta : Option Addr} {tc : Nat} {P : List (Int × Int)} {S : List TriM} (J Jx : List (RA S) → World → Prop)
    (hY : ∀ pre x W, J pre W → pre.length < S.length → YieldAt Fence.wide (n - 1) Try.prog l (encA x) W fun e W' =>
      (e = .returned (.bool true) ∧ J (pre ++ [x]) W' ∧ KeepB Pb W W') ∨ (e = .returned (.bool false) ∧ Jx (pre ++ [x]) W'))
    (hD : ∀ pre W q, J pre W → J pre (W.drewN q))
    (W : World) (hm : MeshR W mb pb pc ta tc P S) (hin : MeshIn Pb mb pb ta) (hBm : W.cell? ⟨Bm, 0, none⟩ = some (.pointer (some ⟨mb, 0, none⟩))) (hPm : Pb Bm) (h0 : J [] W) :
    CallsIn Fence.wide n Try.prog 35 #[.func (.yield l) #[] #[], .pointer (some ⟨Bm, 0, none⟩)] W fun e W' => (∃ v, e = .returned v) ∧
      ((∃ ys : List (RA S), ys.map (·.1) = realsK S S.length ∧ J ys W') ∨ (∃ pre : List (RA S), pre.map (·.1) <+: realsK S S.length ∧ Jx pre W')) := by
  have hF : ∀ k, Fence.wide.fn k := fun _ => trivial
  have hsh := hm.short.2
  obtain ⟨len, hlen⟩ : ∃ len, S.length = len := ⟨_, rfl⟩
  have b0 := hm.box.c0; have b1 := hm.box.c1
  rw [hlen] at b1 hsh
  have HM := Lib.hid hm; have HLEN := Lib.hid hlen; have HD := Lib.hid hD
  clear hm hlen hD
  refine callsIn_of_wp Try.func35 rfl trivial ?_ rfl
  simp only [Try.ntmps35, List.size_toArray, List.length_cons, List.length_nil, Nat.reduceAdd, Nat.reduceSub, Array.replicate_succ, Array.replicate_zero, List.push_toArray, List.append_toArray, List.nil_append, List.cons_append]
  gi_wp2
  clear b0 b1
  gi_loopw [3, 9] (fun _ iv wr => ∃ (i : Nat) (pre : List (RA S)), i ≤ len ∧ iv = .int .i64 i ∧ pre.map (·.1) = realsK S i ∧ J pre wr ∧ KeepB Pb W wr) (fun _ iv _ => len - (intOf iv).toNat)
  case atStart => exact ⟨0, [], Nat.zero_le _, rfl, rfl, h0, KeepB.refl _ _⟩
  case round =>
    obtain ⟨i, pre, hi, rfl, hpre, hJs, hnx⟩ := hrel
    have HPRE := Lib.hid hpre; clear hpre
    by_cases hlt : i < len
    · have hcm : wr.cell? ⟨Bm, 0, none⟩ = some (.pointer (some ⟨mb, 0, none⟩)) := (hnx.cell hPm).trans hBm
      have hm_0 := HM.out.keep hin hnx
      obtain ⟨T, hT⟩ : ∃ T, S[i]? = some T := ⟨_, List.getElem?_eq_getElem (by rw [HLEN.out]; exact hlt)⟩
      have hre := Real_any (i : Int) wr hm_0
      have hrm : realM S (i : Int) = realT T := by unfold realM; rw [getT_nat, hT]
      rw [hrm] at hre
      obtain ⟨r, hr⟩ : ∃ r, realT T = r := ⟨_, rfl⟩
      rw [hr] at hre
      have HRE := Lib.hid hre; have HR := Lib.hid hr; have HT := Lib.hid hT; have HM0 := Lib.hid hm_0
      clear hre hr hT hm_0 hrm
      cases r with
      | false =>
        gi_wp2_with fail
        refine (callsIn_wide.2 HRE.out).mono ?_
        rintro e w' ⟨rfl, q, rfl⟩
        gi_wp2
        go_roundw
        case rel => exact ⟨i + 1, pre, by omega, by go_num, by rw [realsK_no HT.out HR.out]; exact HPRE.out, HD.out _ _ _ hJs, hnx.drew q⟩
        case measure => simp [intOf]; omega
      | true =>
        obtain ⟨x, hx⟩ : ∃ x : RA S, x.1 = (i, T) := ⟨⟨(i, T), HT.out, HR.out⟩, rfl⟩
        have hpl : pre.length < S.length := by
          have h1 := congrArg List.length HPRE.out
          have h2 := realsK_len S i
          rw [List.length_map] at h1
          rw [HLEN.out]; omega
        have hyy := fun q => hY pre x (wr.drewN q) (HD.out _ _ _ hJs) hpl
        have HYY := Lib.hid hyy; have HX := Lib.hid hx; have HNX := Lib.hid hnx; have HCM := Lib.hid hcm
        clear hyy hx hnx
        gi_wp2_with fail
        refine (callsIn_wide.2 HRE.out).mono ?_
        rintro e w' ⟨rfl, q, rfl⟩
        have hm_1 := HM0.out.drewN q
        obtain ⟨tb, hta, -, ht9⟩ := hm_1.tris.get HT.out
        subst hta
        have e0 := hm_1.box.c0; have e1 := hm_1.box.c1
        rw [HLEN.out] at e1
        have hcm1 : (wr.drewN q).cell? ⟨Bm, 0, none⟩ = some (.pointer (some ⟨mb, 0, none⟩)) := HCM.out
        obtain ⟨c0, c1, c2, c3, c4, c5, c6, c7, c8⟩ := ht9
        have hb1 : (0 : Int) ≤ (i : Int) := by omega
        have hb2 : (i : Int) < (len : Int) := by omega
        obtain ⟨fn, tmps, assign, body, hy, hR⟩ := HYY.out q
        unfold encA triV at hy
        rw [HX.out] at hy
        dsimp only at hy
        have hkk : KeepB Pb W (wr.drewN q) := HNX.out.drew q
        have HKK := Lib.hid hkk
        clear hm_1 hkk hcm
        obtain ⟨wd, hwd⟩ : ∃ wd, wr.drewN q = wd := ⟨_, rfl⟩
        rw [hwd] at e0 e1 hcm1 c0 c1 c2 c3 c4 c5 c6 c7 c8 hy hR HKK
        rw [hwd]
        clear hwd
        gi_wp2
        refine hR.mono ?_
        rintro e W3 (⟨rfl, hJ3, hk3'⟩ | ⟨rfl, hJx3⟩)
        · have hkk := HKK.out
          gi_wp2
          go_roundw
          case rel => exact ⟨i + 1, pre ++ [x], by omega, by go_num, by rw [realsK_yes HT.out HR.out, List.map_append, HPRE.out, List.map_cons, List.map_nil, HX.out], hJ3, hkk.trans hk3'⟩
          case measure => simp [intOf]; omega
        · gi_wp2
          refine bodyPost_ret (results_none rfl _ _ _) rfl ?_
          refine ⟨⟨_, rfl⟩, .inr ⟨pre ++ [x], ?_, hJx3⟩⟩
          rw [List.map_append, HPRE.out, List.map_cons, List.map_nil, HX.out, ← realsK_yes HT.out HR.out]
          exact realsK_pre S _ _ (by rw [HLEN.out]; omega)
    · obtain rfl : i = len := by omega
      gi_wp2
      go_end0
      exact ⟨⟨_, rfl⟩, .inl ⟨pre, by rw [HPRE.out, HLEN.out], hJs⟩⟩
end Go.Proofs.Ytaedaknkpfeipaa
/- mesh's All, for a range over it. -/
namespace Go.Proofs.Ytaedaknkpfeipaa
open Go.RowKit Go.MagM Go.Shelf
set_option maxRecDepth 100000 in
set_option maxHeartbeats 4000000 in
theorem All_any (p : Option Addr) (w : World) : Calls Try.prog 13 #[.pointer p] w fun e w' => e = .returned (.func (.func 35) #[] #[.pointer (some ⟨w.heap.size, 0, none⟩)]) ∧ w.alloc (.cells #[.pointer p] 28) = w' := by
  go_enter Try.func13, Try.ntmps13
  go_wp2
  go_ret
  exact ⟨rfl, rfl⟩
theorem all_stops (n : Nat) (hn : 1 ≤ n) (Bm : Nat) (Pb : Nat → Prop) {mb pb pc : Nat} {ta : Option Addr} {tc : Nat} {P : List (Int × Int)} {S : List TriM} (w : World) (hlt : ∀ b, Pb b → b < w.heap.size) (hm : MeshR w mb pb pc ta tc P S) (hin : MeshIn Pb mb pb ta) (hBm : w.cell? ⟨Bm, 0, none⟩ = some (.pointer (some ⟨mb, 0, none⟩))) (hPm : Pb Bm) :
    SeqStopsK Fence.wide n Try.prog 35 #[.pointer (some ⟨Bm, 0, none⟩)] (encA (S := S)) (KeepB Pb) (fun xs => xs.map (·.1) = realsK S S.length) (fun pre => pre.map (·.1) <+: realsK S S.length) S.length w := by
  intro l J Jx W hW hJ hJx hY h0
  have hcm : W.cell? ⟨Bm, 0, none⟩ = some (.pointer (some ⟨mb, 0, none⟩)) := (hW.cell (p := ⟨Bm, 0, none⟩) (hlt Bm hPm)).trans hBm
  refine (all1_any n hn l Bm Pb J Jx hY (fun pre W' q h => hJ pre W' (W'.drewN q) none h (grown_drewN W' q none) (fun r e => by cases e)) W (hm.below hW) hin hcm hPm h0).mono ?_
  rintro e W' ⟨he, h⟩
  refine ⟨he, ?_⟩
  rcases h with ⟨ys, h1, h2⟩ | ⟨pre, h1, h2⟩
  · exact .inl ⟨ys, h1, h2⟩
  · exact .inr ⟨pre, h1, h2⟩
end Go.Proofs.Ytaedaknkpfeipaa
