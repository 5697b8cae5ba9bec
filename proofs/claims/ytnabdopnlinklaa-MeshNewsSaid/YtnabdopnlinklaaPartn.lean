/- A region that draws its order, in a round of a loop over a function: by the laws for regions elsewhere. Over any program. -/
import Derived.Test.YtnabdopnlinklaaPartk
import Derived.Test.YtnabdopnlinklaaParti
import Derived.RangeFuncCalls
import Derived.OwnWalkIn
import Derived.OrdersIn
import Derived.Deep.RegionHeld3
import Derived.Test.YtnabdopnlinklaaMeshN
import Derived.Test.YtnabdopnlinklaaPartm
import Derived.StillTailTactics
namespace Go.MagM
open Go
section
variable {P : Program} {l n : Nat} {md : Region.Mode} {ops : Array Oper} {Q : Exit → Act → World → Prop}
/-- No operation is a defer statement. -/
def noDefers (ops : Array Oper) : Bool := ops.all fun o => match o.op with
  | .defer _ => false
  | _ => true
theorem noDefers_at {i : Nat} {o : Oper} (h : noDefers ops = true) (ho : ops[i]? = some o) : ∀ c, o.op ≠ .defer c := by
  intro c e
  unfold noDefers at h
  rw [Array.all_eq_true_iff_forall_mem] at h
  have := h o (Array.mem_of_getElem? ho)
  rw [e] at this
  cases this
/-- Q where the region has run to its end; nothing else comes. -/
def OnlyN (Q : Exit → Act → World → Prop) : Exit → Act → World → Prop
  | .normal, a, w => Q .normal a w
  | _, _, _ => False
theorem OnlyN.normal {a : Act} {w : World} (h : Q .normal a w) : OnlyN Q .normal a w := h
theorem onlyN_out {P : Prop} (h : LetsOut (OnlyN Q)) : P := by
  obtain ⟨a, w, h⟩ := h
  exact (h : False).elim
theorem wpOp_round {i : Nat} {K K' : Act → World → Prop} {a : Act} {w : World} (hd : noDefers ops = true) (hK : ∀ a w, K a w → K' a w) (h : wpOp P ops (OnlyN Q) i K a w) : wpOpIn (Fence.wide.inRound l) n P ops Q i K' a w := by
  unfold wpOp at h
  unfold wpOpIn
  cases ho : ops[i]? with
  | none => rw [ho] at h; exact hK _ _ h
  | some o =>
    rw [ho] at h
    simp only [] at h ⊢
    split at h
    · rename_i hw
      rw [if_pos hw]
      rcases h with h | ⟨_, h⟩
      · refine ⟨fun _ _ => trivial, ?_⟩
        rw [Oper.semAt_eq _ _ _ (noDefers_at hd ho)]
        unfold Oper.wp at h
        generalize (execOp a.eval o).run P w = r at h
        cases r with
        | ok x w' =>
          cases x with
          | value v => exact hK _ _ h
          | skip => exact hK _ _ h
          | defer d => exact hK _ _ h
          | enter f args =>
            refine ⟨(fun h => by cases h), ?_⟩
            refine (CallsIn.inRound l (callsIn_wide.2 h)).mono fun e w'' he => ?_
            cases e with
            | returned v => exact hK _ _ he
            | panicked c => exact he.elim
            | outgrown => exact onlyN_out he
          | row row args => exact ⟨(fun h => by cases h), fun c cs _ => let ⟨v, w2, r, s⟩ := h c cs; ⟨v, w2, hK _ _ r, stepsIn_wide.2 s⟩⟩
          | _ => exact (h : False).elim
        | halt x w' =>
          cases x <;> exact (h : False).elim
      · exact onlyN_out h
    · rename_i hw
      rw [if_neg hw]
      exact ⟨fun _ _ => trivial, hK _ _ h⟩
theorem wpAny_round (hd : noDefers ops = true) : ∀ (fuel : Nat) (listed : Array Bool) (a : Act) (w : World), wpAny P md ops (OnlyN Q) fuel listed a w → wpAnyIn (Fence.wide.inRound l) n P md ops Q fuel listed a w
  | 0, _, _, _, h => h
  | fuel + 1, _, _, _, h => ⟨h.1, fun i hi => wpOp_round hd (fun a w k => wpAny_round hd fuel _ a w k) (h.2 i hi)⟩
theorem rnd_region_any {id : Nat} {a : Act} {w : World} (hm : P.follows .mixedOrders = true) (hd : noDefers ops = true)
    (h : wpAny P .any ops (OnlyN Q) ops.size (Array.replicate ops.size false) a w.drew) : (Code.region id ops true).wpIn (Fence.wide.inRound l) n P Q a w :=
  wpIn_region_any hm (wpAny_round hd _ _ _ _ h)
theorem rnd_region_G {id : Nat} {a : Act} {w : World} (S : Array Bool → World → Prop) (k : Nat) (ls : Array Bool) (hm : P.follows .mixedOrders = true) (hd : noDefers ops = true) (hn : ops.size = k) (hl : Array.replicate ops.size false = ls) (hS : S ls w.drew)
    (h : Cl .any ops ls → S ls w.drew → wpAnyG P .any ops (OnlyN Q) S k ls a w.drew) : (Code.region id ops true).wpIn (Fence.wide.inRound l) n P Q a w := by
  subst hl hn
  exact rnd_region_any hm hd (wpAny_of_G _ _ _ _ (h Cl.start hS))
theorem rnd_region_held {S : World → Prop} {id : Nat} {a : Act} {w : World} (hm : P.follows .mixedOrders = true) (hd : noDefers ops = true) (hS : S w.drew)
    (h : S w.drew → wpAnyH P .any ops (OnlyN Q) S ops.size (Array.replicate ops.size false) a w.drew) : (Code.region id ops true).wpIn (Fence.wide.inRound l) n P Q a w :=
  rnd_region_any hm hd (wpAny_of_held _ _ _ _ (h hS))
end
end Go.MagM
/- mesh's readers: round, border. -/
namespace Go.MagM
open Go.RowKit
theorem owns_turned {w w' : World} {base g : Nat} {e : TypeId} {size : Nat} {v : Value} {n : Nat} {xs : List Value} (h : w.ownsRow base e size v n xs) (ht : Turned w w' g) (hne : v.ownBlock ≠ some g) : w'.ownsRow base e size v n xs := by
  refine ⟨h.1, ?_⟩
  rcases h.2 with hn | ⟨g', cap, cur, rfl, h2, h3, h4⟩
  · exact .inl hn
  · exact .inr ⟨g', cap, cur, rfl, h2, (ht.block g' (fun e => hne (by rw [e]; rfl))).trans h3, h4⟩
theorem owns_blow {w w' : World} {base : Nat} {e : TypeId} {size : Nat} {v : Value} {n : Nat} {xs : List Value} (h : w.ownsRow base e size v n xs) (hb : Below w.heap.size w w') : w'.ownsRow base e size v n xs := by
  refine ⟨h.1, ?_⟩
  rcases h.2 with hn | ⟨g, cap, cur, hv, hg, hc, r⟩
  · exact .inl hn
  · exact .inr ⟨g, cap, cur, hv, hg, by rw [hb.block g (Array.getElem?_eq_some_iff.1 hc).1]; exact hc, r⟩
/-- A row of one cell an element, as a box. -/
theorem owns_box {w : World} {base g : Nat} {e : TypeId} {size n c : Nat} {xs : List Value} (h : w.ownsRow base e size (.slice (some ⟨g, 0, none⟩) n c) n xs) : Box w g xs := by
  rcases h.2 with ⟨h0, _⟩ | ⟨g', cap, cur, hv, hb, hg, h4, h5, h6, h7⟩
  · cases h0
  · simp only [Value.slice.injEq, Option.some.injEq] at hv
    obtain ⟨hv, -, -⟩ := hv
    injection hv with hv
    subst hv
    refine ⟨fun i u hi => ?_, fun i u hi => ?_⟩
    · have := h.cells (g := g) rfl i u hi
      rwa [addr_add, Nat.zero_add] at this
    · unfold World.frozen?; rw [hg]; simp
/-- The point of triangle t at place k. -/
def vAt (S : List TriM) (t k : Nat) : Int := match S[t]? with
  | some T => T.v k
  | none => 0
/-- The points that come behind those that are gone round. -/
def rimZ (S : List TriM) (l : List (Nat × Nat)) : List Int := l.map fun x => vAt S x.1 ((x.2 + 1) % 3)
def intCells (l : List Int) : List Value := l.map fun z => .int .i64 z
theorem walkM_len (S : List TriM) (v first : Int) : ∀ n t, (walkM S v first n t).length ≤ n
  | 0, _ => Nat.le_refl _
  | n + 1, t => by
    unfold walkM
    split
    · simp
    · split
      · simp
      · have := walkM_len S v first n (stepM S v t)
        rw [List.length_cons]; omega
def borderM (S : List TriM) : List Int := (rimZ S (walkM S (-1) (firstM S (-1)) S.length (firstM S (-1)))).reverse
theorem owns_mono {w : World} {base b' : Nat} {e : TypeId} {size : Nat} {v : Value} {n : Nat} {xs : List Value} (h : w.ownsRow base e size v n xs) (hb : b' ≤ base) : w.ownsRow b' e size v n xs := by
  refine ⟨h.1, ?_⟩
  rcases h.2 with hn | ⟨g, cap, cur, hv, hg, r⟩
  · exact .inl hn
  · exact .inr ⟨g, cap, cur, hv, by omega, r⟩
theorem heap_set_far (w : World) (g i b : Nat) (v : Value) (h : b ≠ g) : (w.setCell ⟨g, i, none⟩ v).heap[b]? = w.heap[b]? := by
  simp only [World.setCell, Array.getElem?_modify]
  rw [if_neg (Ne.symm h)]
theorem five_boxes (w : World) (v0 v1 v2 v3 v4 : Value) (t0 t1 t2 t3 t4 : TypeId) :
    Boxed (((((w.alloc (.cells #[v0] t0)).alloc (.cells #[v1] t1)).alloc (.cells #[v2] t2)).alloc (.cells #[v3] t3)).alloc (.cells #[v4] t4)) w.heap.size t0 v0 ∧
    Boxed (((((w.alloc (.cells #[v0] t0)).alloc (.cells #[v1] t1)).alloc (.cells #[v2] t2)).alloc (.cells #[v3] t3)).alloc (.cells #[v4] t4)) (w.heap.size + 1) t1 v1 ∧
    Boxed (((((w.alloc (.cells #[v0] t0)).alloc (.cells #[v1] t1)).alloc (.cells #[v2] t2)).alloc (.cells #[v3] t3)).alloc (.cells #[v4] t4)) (w.heap.size + 1 + 1) t2 v2 ∧
    Boxed (((((w.alloc (.cells #[v0] t0)).alloc (.cells #[v1] t1)).alloc (.cells #[v2] t2)).alloc (.cells #[v3] t3)).alloc (.cells #[v4] t4)) (w.heap.size + 1 + 1 + 1) t3 v3 ∧
    Boxed (((((w.alloc (.cells #[v0] t0)).alloc (.cells #[v1] t1)).alloc (.cells #[v2] t2)).alloc (.cells #[v3] t3)).alloc (.cells #[v4] t4)) (w.heap.size + 1 + 1 + 1 + 1) t4 v4 ∧
    (((((w.alloc (.cells #[v0] t0)).alloc (.cells #[v1] t1)).alloc (.cells #[v2] t2)).alloc (.cells #[v3] t3)).alloc (.cells #[v4] t4)).heap.size = w.heap.size + 5 ∧
    Below w.heap.size w (((((w.alloc (.cells #[v0] t0)).alloc (.cells #[v1] t1)).alloc (.cells #[v2] t2)).alloc (.cells #[v3] t3)).alloc (.cells #[v4] t4)) := by
  have n0 := Boxed.new w t0 v0
  have n1 := Boxed.new (w.alloc (.cells #[v0] t0)) t1 v1
  have n2 := Boxed.new ((w.alloc (.cells #[v0] t0)).alloc (.cells #[v1] t1)) t2 v2
  have n3 := Boxed.new (((w.alloc (.cells #[v0] t0)).alloc (.cells #[v1] t1)).alloc (.cells #[v2] t2)) t3 v3
  have n4 := Boxed.new ((((w.alloc (.cells #[v0] t0)).alloc (.cells #[v1] t1)).alloc (.cells #[v2] t2)).alloc (.cells #[v3] t3)) t4 v4
  simp only [World.size_alloc] at n1 n2 n3 n4
  refine ⟨(((n0.alloc _).alloc _).alloc _).alloc _, ((n1.alloc _).alloc _).alloc _, (n2.alloc _).alloc _, n3.alloc _, n4, by simp only [World.size_alloc], ?_⟩
  exact (((((Below.refl _ w).alloc (Nat.le_refl _) _).alloc (by simp) _).alloc (by simp; omega) _).alloc (by simp; omega) _).alloc (by simp; omega) _
theorem keepB_own {β : Type} {Pb : Nat → Prop} {W0 : World} (hP : ∀ b, Pb b → b < W0.heap.size) : OwnFrom W0.heap.size (fun (_ : β) W => KeepB Pb W0 W) := by
  intro s X Y row hs hg hr b hb
  have h1 := hs b hb
  have h2 := hP b hb
  have h3 : X.heap[b]? = some W0.heap[b] := h1.trans (Array.getElem?_eq_getElem h2)
  refine (hg.block b (Array.getElem?_eq_some_iff.1 h3).1 (fun e => ?_)).trans h1
  have := (hr b e.symm).1
  omega
end Go.MagM
namespace Go.Proofs.Ytnabdopnlinklaa
open Go.RowKit Go.MagM Go.Shelf
attribute [local go_sem] Oper.semAt_some
theorem round_stops_first (n : Nat) (hn : 1 ≤ n) (Bb Bv Bm : Nat) (Pb : Nat → Prop) {mb pb pc : Nat} {ta : Option Addr} {tc : Nat} {P : List (Int × Int)} {S : List TriM} (v : Int) (w : World) (hm : MeshR w mb pb pc ta tc P S) (hin : MeshIn Pb mb pb ta) (hBb : w.cell? ⟨Bb, 0, none⟩ = some (.func (.func 29) #[.pointer (some ⟨mb, 0, none⟩)] #[])) (hBv : w.cell? ⟨Bv, 0, none⟩ = some (.int .i64 v)) (hBm : w.cell? ⟨Bm, 0, none⟩ = some (.pointer (some ⟨mb, 0, none⟩))) (_hPb : Pb Bb) (hPv : Pb Bv) (hPm : Pb Bm) (_hP : ∀ b, Pb b → b < w.heap.size) :
    SeqStopsK Fence.wide n Try.prog 59 #[.pointer (some ⟨Bb, 0, none⟩), .pointer (some ⟨Bv, 0, none⟩), .pointer (some ⟨Bm, 0, none⟩)] encR (KeepB Pb) (fun ys : List (RB S) => ys.map (·.1) = walkM S v (firstM S v) S.length (firstM S v)) (fun pre : List (RB S) => pre.map (·.1) <+: walkM S v (firstM S v) S.length (firstM S v)) S.length w := fun l J Jx W hW _ _ hY h0 =>
  round1_first n hn l Bb Bv Bm Pb v J Jx hY W (hm.below hW) hin ((hW.cell (p := ⟨Bb, 0, none⟩) (World.block_lt_of_cell? w _ hBb)).trans hBb) ((hW.cell (p := ⟨Bv, 0, none⟩) (World.block_lt_of_cell? w _ hBv)).trans hBv) ((hW.cell (p := ⟨Bm, 0, none⟩) (World.block_lt_of_cell? w _ hBm)).trans hBm) hPv hPm h0
set_option maxHeartbeats 1000000 in
theorem round_any (p fv : Value) (v : Int) (mb g : Nat) (w : World) (hp : p = .pointer (some ⟨mb, 0, none⟩)) (hf : fv = .func (.func g) #[.pointer (some ⟨mb, 0, none⟩)] #[]) :
    Calls Try.prog 44 #[p, .int .i64 v, fv] w fun e w' => e = .returned (.func (.func 59) #[] #[.pointer (some ⟨w.heap.size + 1 + 1, 0, none⟩), .pointer (some ⟨w.heap.size + 1, 0, none⟩), .pointer (some ⟨w.heap.size, 0, none⟩)]) ∧ w' = ((w.alloc (.cells #[p] 28)).alloc (.cells #[.int .i64 v] 3)).alloc (.cells #[fv] 40) := by
  subst hp hf
  go_enter Try.func44, Try.ntmps44
  go_wp2
  go_ret
  exact ⟨rfl, rfl⟩
theorem intCells_len (l : List Int) : (intCells l).length = l.length := by unfold intCells; rw [List.length_map]
theorem infoI : (Try.prog.info? 3).map (fun i => (i.zero, i.size, i.bytes)) = some (some (.int .i64 0), 1, 8) := by kernel_rfl
set_option maxRecDepth 100000 in
set_option maxHeartbeats 16000000 in
theorem border_room {mb pb pc : Nat} {ta : Option Addr} {tc : Nat} {P : List (Int × Int)} {S : List TriM} (w : World) (h : MeshR w mb pb pc ta tc P S) (hP0 : P ≠ []) (hne : borderM S ≠ []) :
    Calls Try.prog 34 #[.pointer (some ⟨mb, 0, none⟩)] w fun e w' => ∃ g c, e = .returned (.slice (some ⟨g, 0, none⟩) (borderM S).length c) ∧ (borderM S).length ≤ c ∧ Box w' g (intCells (borderM S)) ∧ w.heap.size ≤ g ∧ g < w'.heap.size ∧ Below w.heap.size w w' := by
  obtain ⟨i0, hi, hz0, hz1, hz2⟩ := info_parts infoI
  have HI := Lib.hid hi; have HZ0 := Lib.hid hz0; have HZ1 := Lib.hid hz1; have HZ2 := Lib.hid hz2
  clear hi hz0 hz1 hz2
  have hsh := h.short.2
  have hlm := h.lt
  have H := Lib.hid h; have HNE := Lib.hid hne
  have hlp : pb < w.heap.size := by
    cases P with
    | nil => exact absurd rfl hP0
    | cons p l => exact World.block_lt_of_cell? w _ (h.pts 0 p.1 p.2 rfl).1
  have hlt : ∀ b, ta = some ⟨b, 0, none⟩ → b < w.heap.size := by
    intro b hb
    cases S with
    | nil => exact absurd rfl hne
    | cons p l =>
      obtain ⟨b', e, hl, _⟩ := h.tris.get (i := 0) (T := p) rfl
      rw [hb] at e; simp at e; subst e; exact hl
  clear h hne hP0
  refine (callsIn_wide (n := 20)).1 (callsIn_of_wp_marks (F := Fence.wide) (n := 20) Try.func34 rfl trivial ?_ rfl)
  simp only [Try.ntmps34, List.size_toArray, List.length_cons, List.length_nil, Nat.reduceAdd, Nat.reduceSub, Array.replicate_succ, Array.replicate_zero, List.push_toArray, List.append_toArray, List.nil_append, List.cons_append]
  rw [wpIn_wide]
  go_wp2_with (go_at_call 44; refine (round_any _ _ _ mb 29 _ rfl rfl).mono ?_; rintro e w1 ⟨rfl, rfl⟩)
  rw [← wpIn_wide (n := 20)]
  obtain ⟨x0, x1, x2, x3, x4, hs0, hB0⟩ := five_boxes w (.pointer (some ⟨mb, 0, none⟩)) (.slice none 0 0) (.pointer (some ⟨mb, 0, none⟩)) (.int .i64 (-1)) (.func (.func 29) #[.pointer (some ⟨mb, 0, none⟩)] #[]) 28 45 28 3 40
  generalize hW0 : ((((w.alloc (.cells #[.pointer (some ⟨mb, 0, none⟩)] 28)).alloc (.cells #[.slice none 0 0] 45)).alloc (.cells #[.pointer (some ⟨mb, 0, none⟩)] 28)).alloc (.cells #[.int .i64 (-1)] 3)).alloc (.cells #[.func (.func 29) #[.pointer (some ⟨mb, 0, none⟩)] #[]] 40) = W0 at *
  clear hW0
  have hm0 := H.out.below hB0
  have hin : MeshIn (fun b => b ≠ w.heap.size + 1 ∧ b < w.heap.size + 5) mb pb ta := ⟨by omega, by omega, fun b hb => by have := hlt b hb; omega⟩
  have H0 := Lib.hid hm0; clear hm0
  refine wpIn_rangeFunc_ownG rfl (by omega) (gf := 59) (lb := #[.pointer (some ⟨w.heap.size + 1 + 1 + 1 + 1, 0, none⟩), .pointer (some ⟨w.heap.size + 1 + 1 + 1, 0, none⟩), .pointer (some ⟨w.heap.size + 1 + 1, 0, none⟩)]) rfl trivial (enters_of Try.func59 (by kernel_rfl) rfl)
    (round_stops_first 19 (by omega) _ _ _ (fun b => b ≠ w.heap.size + 1 ∧ b < w.heap.size + 5) (-1) W0 H0.out hin x4.cell x3.cell x2.cell (by omega) (by omega) (by omega) (fun b hb => by omega)) (fun h k => KeepB.trans h k) ?Kb (Below.refl _ _) (fun _ => rfl)
    (fun pre W => (∃ v, Boxed W (w.heap.size + 1) 45 v ∧ W.ownsRow (w.heap.size + 5) 3 1 v pre.length (intCells (rimZ S (pre.map (·.1)))) ∧ True) ∧ KeepB (fun b => b ≠ w.heap.size + 1 ∧ b < w.heap.size + 5) W0 W ∧ Below w.heap.size w W)
    (fun _ _ _ => False) ?own (fun _ _ _ _ _ hs _ _ => hs) ?start
    (fun x => { tmps := #[.pointer (some ⟨mb, 0, none⟩), .pointer (some ⟨w.heap.size, 0, none⟩), .slice none 0 0, .pointer (some ⟨w.heap.size + 1, 0, none⟩), .int .i64 (x.1.1 : Int), .int .i64 (x.1.2 : Int), .pointer (some ⟨mb, 0, none⟩), .pointer (some ⟨mb, 0, none⟩), .func (.func 29) #[.pointer (some ⟨mb, 0, none⟩)] #[], .func (.func 59) #[] #[.pointer (some ⟨w.heap.size + 1 + 1 + 1 + 1, 0, none⟩), .pointer (some ⟨w.heap.size + 1 + 1 + 1, 0, none⟩), .pointer (some ⟨w.heap.size + 1 + 1, 0, none⟩)], .int .i64 (x.1.1 : Int), .int .i64 (x.1.2 : Int), undef, undef, undef, undef, undef, undef, undef, undef, undef, undef, undef, undef, undef, undef, undef, undef, undef, undef], defers := [] }) ?assign ?body ?done ?stop
  case Kb =>
    intro W l o o' hl h _ _ b hb
    have : b ≠ l := by omega
    exact World.putObj_heap_other (fun e => this e)
  case own => exact OwnFrom.and (Own.from (holdsRow_own _ _ _ _ _ _ _ (fun _ _ => True)) _) (OwnFrom.and (keepB_own (fun b hb => by omega)) (ownFrom_below (Nat.le_refl _) (by omega)))
  case start => exact ⟨⟨_, x1, World.ownsRow_nil _ _ _ _, trivial⟩, KeepB.refl _ _, hB0⟩
  case assign =>
    intro l x W K hK
    dsimp only [encR]
    gi_wp2
    exact hK
  case body =>
    rintro l pre ⟨⟨m, k⟩, hm, hk⟩ W ⟨⟨v, hv, hrow, -⟩, hKB, hB⟩ hlen
    simp only [] at hm hk
    have hmW := H0.out.keep hin hKB
    obtain ⟨T, hT⟩ : ∃ T, S[m]? = some T := ⟨_, List.getElem?_eq_getElem hm⟩
    obtain ⟨tb, hta, htl, ht9⟩ := hmW.tris.get hT
    subst hta
    obtain ⟨k1, hk1⟩ : ∃ k1, (k + 1) % 3 = k1 := ⟨_, rfl⟩
    have hk13 : k1 < 3 := by omega
    obtain ⟨y, hy⟩ : ∃ y, T.v k1 = y := ⟨_, rfl⟩
    have hvat : vAt S m ((k + 1) % 3) = y := by unfold vAt; rw [hT, hk1]; exact hy
    have cy : W.drew.cell? ⟨tb, m * 9 + k1, none⟩ = some (.int .i64 y) := by rw [← hy]; exact ht9.v hk13
    have hv0 : Boxed W (w.heap.size) 28 (.pointer (some ⟨mb, 0, none⟩)) := (hKB w.heap.size (by omega)).trans x0
    have cm : W.drew.cell? ⟨w.heap.size, 0, none⟩ = some (.pointer (some ⟨mb, 0, none⟩)) := hv0.cell
    have co : W.drew.cell? ⟨w.heap.size + 1, 0, none⟩ = some v := hv.cell
    obtain ⟨len, hlen'⟩ : ∃ len, S.length = len := ⟨_, rfl⟩
    have ct : W.drew.cell? ⟨mb, 1, none⟩ = some (.slice (some ⟨tb, 0, none⟩) len tc) := by rw [← hlen']; exact hmW.box.c1
    rw [hlen'] at hm hlen hsh
    have hmod : ((k : Int) + 1).tmod 3 = (k1 : Int) := by have := mod_one k 3; rw [hk1] at this; exact this
    have hwk : IntKind.i64.wrap ((k : Int) + 1) = (k : Int) + 1 := by rw [IntKind.wrap_i64]; omega
    have hb1 : (0 : Int) ≤ (m : Int) := by omega
    have hb2 : (m : Int) < (len : Int) := by omega
    have hb3' : (0 : Int) ≤ (k1 : Int) := by omega
    have hb4' : (k1 : Int) < 3 := by omega
    have htbl : tb < w.heap.size := hlt tb rfl
    have HBB : Hid (Below w.heap.size w W.drew) := Lib.hid hB.drew'
    have HROW : Hid (W.drew.ownsRow (w.heap.size + 5) 3 1 v pre.length (intCells (rimZ S (pre.map (·.1))))) := Lib.hid hrow
    have HVB : Hid (Boxed W.drew (w.heap.size + 1) 45 v) := Lib.hid hv
    have HKB := Lib.hid hKB; have HB := Lib.hid hB; have HVAT := Lib.hid hvat; have HS5 : w.heap.size + 5 ≤ W.drew.heap.size := by
      have := (hKB (w.heap.size + 4) (by omega)).trans x4
      have := (Array.getElem?_eq_some_iff.1 this).1
      show w.heap.size + 5 ≤ W.heap.size
      omega
    have hWd : KeepsOthers W W.drew := KeepsOthers.drew W
    have HWK : Hid (∀ b : Nat, W.drew.heap[b]? = W.heap[b]?) := Lib.hid (fun _ => rfl)
    have HWK' := Lib.hid hWd; have HLN := Lib.hid hlen'
    have HWB : Hid (Below w.heap.size W W.drew) := Lib.hid ((Below.refl _ _).drew')
    clear hmW hT ht9 hy hvat hv0 hrow hv hKB hB hlen' hk1 x0 x1 x2 x3 x4 hWd
    gi_wp2
    obtain ⟨SSq, hSSq⟩ : ∃ S : Array Bool → World → Prop, ∀ l w', S l w' ↔ ((l.getD 14 true = false → w'.cell? ⟨w.heap.size + 1, 0, none⟩ = some (v)) ∧ (l.getD 15 true = false → w'.cell? ⟨w.heap.size, 0, none⟩ = some (.pointer (some ⟨mb, 0, none⟩))) ∧ (l.getD 15 true = false → w'.cell? ⟨mb, 1, none⟩ = some (.slice (some ⟨tb, 0, none⟩) len tc)) ∧ (l.getD 13 true = false → w'.cell? ⟨tb, m * 9 + k1, none⟩ = some (.int .i64 y))) := ⟨_, fun _ _ => Iff.rfl⟩
    refine rnd_region_G SSq 16 #[false, false, false, false, false, false, false, false, false, false, false, false, false, false, false, false] (by kernel_rfl) (by kernel_rfl) (by kernel_rfl) (by kernel_rfl) ((hSSq _ _).2 ⟨(fun _ => co), (fun _ => cm), (fun _ => ct), (fun _ => cy)⟩) (fun hCl hHeld => ?_)
    generalize W.drew = w2 at *
    refine reg_takeG 0 ?_ ?_ ?_ (by kernel_rfl) (by kernel_rfl) (by kernel_rfl) (fun _ _ _ h => h) ?_ ?_ ?_ hCl hHeld ?_
    rotate_left 2
    · simp only [List.getElem?_toArray, List.getElem?_cons_zero]; exact rfl
    · intro l w'; rw [hSSq, hSSq]; rw [getD_set_ne (i := 0) (j := 14) true (by decide)]; rw [getD_set_ne (i := 0) (j := 15) true (by decide)]; rw [getD_set_ne (i := 0) (j := 13) true (by decide)]
    · rfl
    · intro w' hA; obtain ⟨l, hl, hi, hSl⟩ := hA; have hSl := (hSSq _ _).1 hSl; obtain ⟨hy0, hy1, hy2, -⟩ := hSl; have hz0 := hy0 (hl.not (t := 14) (by kernel_rfl) hi); have hz1 := hy1 (hl.not (t := 15) (by kernel_rfl) hi); have hz2 := hy2 (hl.not (t := 15) (by kernel_rfl) hi); go_simp; try with_reducible rfl
    clear hCl hHeld
    intro hCl hHeld
    simp only [List.setIfInBounds_toArray, List.set_cons_zero] at hCl hHeld
    try simp only [Act.put]
    try simp only [List.setIfInBounds_toArray, List.set_cons_zero, List.set_cons_succ]
    refine reg_takeG 1 ?_ ?_ ?_ (by kernel_rfl) (by kernel_rfl) (by kernel_rfl) (fun _ _ _ h => h) ?_ ?_ ?_ hCl hHeld ?_
    rotate_left 2
    · simp only [List.getElem?_toArray, List.getElem?_cons_succ, List.getElem?_cons_zero]; exact rfl
    · intro l w'; rw [hSSq, hSSq]; rw [getD_set_ne (i := 1) (j := 14) true (by decide)]; rw [getD_set_ne (i := 1) (j := 15) true (by decide)]; rw [getD_set_ne (i := 1) (j := 13) true (by decide)]
    · rfl
    · intro w' hA; obtain ⟨l, hl, hi, hSl⟩ := hA; have hSl := (hSSq _ _).1 hSl; obtain ⟨-, hy1, hy2, -⟩ := hSl; have hz1 := hy1 (hl.not (t := 15) (by kernel_rfl) hi); have hz2 := hy2 (hl.not (t := 15) (by kernel_rfl) hi); go_simp; try with_reducible rfl
    clear hCl hHeld
    intro hCl hHeld
    simp only [List.setIfInBounds_toArray, List.set_cons_zero, List.set_cons_succ] at hCl hHeld
    try simp only [Act.put]
    try simp only [List.setIfInBounds_toArray, List.set_cons_zero, List.set_cons_succ]
    refine reg_takeG 2 ?_ ?_ ?_ (by kernel_rfl) (by kernel_rfl) (by kernel_rfl) (fun _ _ _ h => h) ?_ ?_ ?_ hCl hHeld ?_
    rotate_left 2
    · simp only [List.getElem?_toArray, List.getElem?_cons_succ, List.getElem?_cons_zero]; exact rfl
    · intro l w'; rw [hSSq, hSSq]; rw [getD_set_ne (i := 2) (j := 14) true (by decide)]; rw [getD_set_ne (i := 2) (j := 15) true (by decide)]; rw [getD_set_ne (i := 2) (j := 13) true (by decide)]
    · rfl
    · intro w' hA; clear hA; go_simp; try with_reducible rfl
    clear hCl hHeld
    intro hCl hHeld
    simp only [List.setIfInBounds_toArray, List.set_cons_zero, List.set_cons_succ] at hCl hHeld
    try simp only [Act.put]
    try simp only [List.setIfInBounds_toArray, List.set_cons_zero, List.set_cons_succ]
    refine reg_takeG 3 ?_ ?_ ?_ (by kernel_rfl) (by kernel_rfl) (by kernel_rfl) (fun _ _ _ h => h) ?_ ?_ ?_ hCl hHeld ?_
    rotate_left 2
    · simp only [List.getElem?_toArray, List.getElem?_cons_succ, List.getElem?_cons_zero]; exact rfl
    · intro l w'; rw [hSSq, hSSq]; rw [getD_set_ne (i := 3) (j := 14) true (by decide)]; rw [getD_set_ne (i := 3) (j := 15) true (by decide)]; rw [getD_set_ne (i := 3) (j := 13) true (by decide)]
    · rfl
    · intro w' hA; clear hA; go_simp; try with_reducible rfl
    clear hCl hHeld
    intro hCl hHeld
    simp only [List.setIfInBounds_toArray, List.set_cons_zero, List.set_cons_succ] at hCl hHeld
    try simp only [Act.put]
    try simp only [List.setIfInBounds_toArray, List.set_cons_zero, List.set_cons_succ]
    refine reg_takeG 4 ?_ ?_ ?_ (by kernel_rfl) (by kernel_rfl) (by kernel_rfl) (fun _ _ _ h => h) ?_ ?_ ?_ hCl hHeld ?_
    rotate_left 2
    · simp only [List.getElem?_toArray, List.getElem?_cons_succ, List.getElem?_cons_zero]; exact rfl
    · intro l w'; rw [hSSq, hSSq]; rw [getD_set_ne (i := 4) (j := 14) true (by decide)]; rw [getD_set_ne (i := 4) (j := 15) true (by decide)]; rw [getD_set_ne (i := 4) (j := 13) true (by decide)]
    · rfl
    · intro w' hA; obtain ⟨l, hl, hi, hSl⟩ := hA; have hSl := (hSSq _ _).1 hSl; obtain ⟨-, hy1, hy2, -⟩ := hSl; have hz1 := hy1 (hl.not (t := 15) (by kernel_rfl) hi); have hz2 := hy2 (hl.not (t := 15) (by kernel_rfl) hi); go_simp; try with_reducible rfl
    clear hCl hHeld
    intro hCl hHeld
    simp only [List.setIfInBounds_toArray, List.set_cons_zero, List.set_cons_succ] at hCl hHeld
    try simp only [Act.put]
    try simp only [List.setIfInBounds_toArray, List.set_cons_zero, List.set_cons_succ]
    refine reg_takeG 5 ?_ ?_ ?_ (by kernel_rfl) (by kernel_rfl) (by kernel_rfl) (fun _ _ _ h => h) ?_ ?_ ?_ hCl hHeld ?_
    rotate_left 2
    · simp only [List.getElem?_toArray, List.getElem?_cons_succ, List.getElem?_cons_zero]; exact rfl
    · intro l w'; rw [hSSq, hSSq]; rw [getD_set_ne (i := 5) (j := 14) true (by decide)]; rw [getD_set_ne (i := 5) (j := 15) true (by decide)]; rw [getD_set_ne (i := 5) (j := 13) true (by decide)]
    · rfl
    · intro w' hA; clear hA; go_simp; try with_reducible rfl
    clear hCl hHeld
    intro hCl hHeld
    simp only [List.setIfInBounds_toArray, List.set_cons_zero, List.set_cons_succ] at hCl hHeld
    try simp only [Act.put]
    try simp only [List.setIfInBounds_toArray, List.set_cons_zero, List.set_cons_succ]
    refine reg_takeG 6 ?_ ?_ ?_ (by kernel_rfl) (by kernel_rfl) (by kernel_rfl) (fun _ _ _ h => h) ?_ ?_ ?_ hCl hHeld ?_
    rotate_left 2
    · simp only [List.getElem?_toArray, List.getElem?_cons_succ, List.getElem?_cons_zero]; exact rfl
    · intro l w'; rw [hSSq, hSSq]; rw [getD_set_ne (i := 6) (j := 14) true (by decide)]; rw [getD_set_ne (i := 6) (j := 15) true (by decide)]; rw [getD_set_ne (i := 6) (j := 13) true (by decide)]
    · rfl
    · intro w' hA; clear hA; go_simp; try with_reducible rfl
    clear hCl hHeld
    intro hCl hHeld
    simp only [List.setIfInBounds_toArray, List.set_cons_zero, List.set_cons_succ] at hCl hHeld
    try simp only [Act.put]
    try simp only [List.setIfInBounds_toArray, List.set_cons_zero, List.set_cons_succ]
    refine reg_takeG 7 ?_ ?_ ?_ (by kernel_rfl) (by kernel_rfl) (by kernel_rfl) (fun _ _ _ h => h) ?_ ?_ ?_ hCl hHeld ?_
    rotate_left 2
    · simp only [List.getElem?_toArray, List.getElem?_cons_succ, List.getElem?_cons_zero]; exact rfl
    · intro l w'; rw [hSSq, hSSq]; rw [getD_set_ne (i := 7) (j := 14) true (by decide)]; rw [getD_set_ne (i := 7) (j := 15) true (by decide)]; rw [getD_set_ne (i := 7) (j := 13) true (by decide)]
    · rfl
    · intro w' hA; clear hA; go_simp; try with_reducible rfl
    clear hCl hHeld
    intro hCl hHeld
    simp only [List.setIfInBounds_toArray, List.set_cons_zero, List.set_cons_succ] at hCl hHeld
    try simp only [Act.put]
    try simp only [List.setIfInBounds_toArray, List.set_cons_zero, List.set_cons_succ]
    refine reg_takeG 8 ?_ ?_ ?_ (by kernel_rfl) (by kernel_rfl) (by kernel_rfl) (fun _ _ _ h => h) ?_ ?_ ?_ hCl hHeld ?_
    rotate_left 2
    · simp only [List.getElem?_toArray, List.getElem?_cons_succ, List.getElem?_cons_zero]; exact rfl
    · intro l w'; rw [hSSq, hSSq]; rw [getD_set_ne (i := 8) (j := 14) true (by decide)]; rw [getD_set_ne (i := 8) (j := 15) true (by decide)]; rw [getD_set_ne (i := 8) (j := 13) true (by decide)]
    · rfl
    · intro w' hA; clear hA; go_simp; try with_reducible rfl
    clear hCl hHeld
    intro hCl hHeld
    simp only [List.setIfInBounds_toArray, List.set_cons_zero, List.set_cons_succ] at hCl hHeld
    try simp only [Act.put]
    try simp only [List.setIfInBounds_toArray, List.set_cons_zero, List.set_cons_succ]
    refine reg_takeG 9 ?_ ?_ ?_ (by kernel_rfl) (by kernel_rfl) (by kernel_rfl) (fun _ _ _ h => h) ?_ ?_ ?_ hCl hHeld ?_
    rotate_left 2
    · simp only [List.getElem?_toArray, List.getElem?_cons_succ, List.getElem?_cons_zero]; exact rfl
    · intro l w'; rw [hSSq, hSSq]; rw [getD_set_ne (i := 9) (j := 14) true (by decide)]; rw [getD_set_ne (i := 9) (j := 15) true (by decide)]; rw [getD_set_ne (i := 9) (j := 13) true (by decide)]
    · rfl
    · intro w' hA; clear hA; go_simp; try with_reducible rfl
    clear hCl hHeld
    intro hCl hHeld
    simp only [List.setIfInBounds_toArray, List.set_cons_zero, List.set_cons_succ] at hCl hHeld
    try simp only [Act.put]
    try simp only [List.setIfInBounds_toArray, List.set_cons_zero, List.set_cons_succ]
    refine reg_takeG 10 ?_ ?_ ?_ (by kernel_rfl) (by kernel_rfl) (by kernel_rfl) (fun _ _ _ h => h) ?_ ?_ ?_ hCl hHeld ?_
    rotate_left 2
    · simp only [List.getElem?_toArray, List.getElem?_cons_succ, List.getElem?_cons_zero]; exact rfl
    · intro l w'; rw [hSSq, hSSq]; rw [getD_set_ne (i := 10) (j := 14) true (by decide)]; rw [getD_set_ne (i := 10) (j := 15) true (by decide)]; rw [getD_set_ne (i := 10) (j := 13) true (by decide)]
    · rfl
    · intro w' hA; clear hA; go_simp; try with_reducible rfl
    clear hCl hHeld
    intro hCl hHeld
    simp only [List.setIfInBounds_toArray, List.set_cons_zero, List.set_cons_succ] at hCl hHeld
    try simp only [Act.put]
    try simp only [List.setIfInBounds_toArray, List.set_cons_zero, List.set_cons_succ]
    refine reg_takeG 11 ?_ ?_ ?_ (by kernel_rfl) (by kernel_rfl) (by kernel_rfl) (fun _ _ _ h => h) ?_ ?_ ?_ hCl hHeld ?_
    rotate_left 2
    · simp only [List.getElem?_toArray, List.getElem?_cons_succ, List.getElem?_cons_zero]; exact rfl
    · intro l w'; rw [hSSq, hSSq]; rw [getD_set_ne (i := 11) (j := 14) true (by decide)]; rw [getD_set_ne (i := 11) (j := 15) true (by decide)]; rw [getD_set_ne (i := 11) (j := 13) true (by decide)]
    · rfl
    · intro w' hA; clear hA; go_simp; try with_reducible rfl
    clear hCl hHeld
    intro hCl hHeld
    simp only [List.setIfInBounds_toArray, List.set_cons_zero, List.set_cons_succ] at hCl hHeld
    try simp only [Act.put]
    try simp only [List.setIfInBounds_toArray, List.set_cons_zero, List.set_cons_succ]
    refine reg_takeG 12 ?_ ?_ ?_ (by kernel_rfl) (by kernel_rfl) (by kernel_rfl) (fun _ _ _ h => h) ?_ ?_ ?_ hCl hHeld ?_
    rotate_left 2
    · simp only [List.getElem?_toArray, List.getElem?_cons_succ, List.getElem?_cons_zero]; exact rfl
    · intro l w'; rw [hSSq, hSSq]; rw [getD_set_ne (i := 12) (j := 14) true (by decide)]; rw [getD_set_ne (i := 12) (j := 15) true (by decide)]; rw [getD_set_ne (i := 12) (j := 13) true (by decide)]
    · rfl
    · intro w' hA; obtain ⟨l, hl, hi, hSl⟩ := hA; have hSl := (hSSq _ _).1 hSl; obtain ⟨-, hy1, hy2, hy3⟩ := hSl; have hz1 := hy1 (hl.not (t := 15) (by kernel_rfl) hi); have hz2 := hy2 (hl.not (t := 15) (by kernel_rfl) hi); have hz3 := hy3 (hl.not (t := 13) (by kernel_rfl) hi); go_simp; try with_reducible rfl
    clear hCl hHeld
    intro hCl hHeld
    simp only [List.setIfInBounds_toArray, List.set_cons_zero, List.set_cons_succ] at hCl hHeld
    try simp only [Act.put]
    try simp only [List.setIfInBounds_toArray, List.set_cons_zero, List.set_cons_succ]
    clear hCl hHeld
    obtain ⟨w3, hw3, pq_0, hb3, hs3⟩ := new_box w2 _ rfl [.int .i64 y] 3
    refine reg_callG 13 ?_ (by kernel_rfl) ?_ (fun K hK => ?_)
    rotate_left 1
    · simp only [List.getElem?_toArray, List.getElem?_cons_succ, List.getElem?_cons_zero]; exact rfl
    go_simp
    try rw [hw3]
    have do_ := (hb3.cell (p := ⟨w.heap.size + 1, 0, none⟩) (World.block_lt_of_cell? w2 _ co)).trans co
    have dm := (hb3.cell (p := ⟨w.heap.size, 0, none⟩) (World.block_lt_of_cell? w2 _ cm)).trans cm
    have dt := (hb3.cell (p := ⟨mb, 1, none⟩) (World.block_lt_of_cell? w2 _ ct)).trans ct
    refine hK.out _ _ ((hSSq _ _).2 ⟨(fun _ => do_), (fun _ => dm), (fun _ => dt), (fun h => absurd h (by decide))⟩) ?_
    clear hK K
    try simp only [Act.put]
    try simp only [List.setIfInBounds_toArray, List.set_cons_zero, List.set_cons_succ]
    have hrow3 : w3.ownsRow (w.heap.size + 5) 3 1 v pre.length (intCells (rimZ S (pre.map (·.1)))) := owns_blow HROW.out hb3
    obtain ⟨v', w4, hrun, hrow4, hgrow, -⟩ := run_append_own (P := Try.prog) w3 (w.heap.size + 5) 45 45 3 i0 (.int .i64 0) 1 8 (by kernel_rfl) HI.out HZ0.out HZ1.out HZ2.out rfl (by omega) v pre.length _ hrow3 ⟨w2.heap.size, 0, none⟩ 1 1 [.int .i64 y] rfl pq_0.news (by intro u hu; simp at hu; subst hu; rfl) (by unfold maxLen; omega) (by omega) (by have := HBB.out.size; omega)
    refine reg_callG 14 ?_ (by kernel_rfl) ?_ (fun K hK => ?_)
    rotate_left 1
    · simp only [List.getElem?_toArray, List.getElem?_cons_succ, List.getElem?_cons_zero]; exact rfl
    refine wanted_go rfl ?_
    refine wp_append_row _ _ 45 rfl rfl rfl hrun ?_
    obtain ⟨g', cap', rfl⟩ := ownsRow_succ hrow4
    have hgrow' : (w2.alloc (.cells #[.int .i64 y] 3)).grownBy w4 v.ownBlock := by rw [hw3]; exact hgrow
    have hvl := hrow3.lt
    have em := hgrow.cell dm (fun e => by have := (hvl _ e.symm).1; simp only [] at this; omega)
    have et := hgrow.cell dt (fun e => by have := (hvl _ e.symm).1; simp only [] at this; omega)
    obtain ⟨hv4, hv5, hr5, hk5, hb5⟩ := HVB.out.appended (by decide) (owns_mono HROW.out (show w.heap.size + 1 ≤ w.heap.size + 5 by omega)) (by have := HBB.out.size; omega) (Nat.le_refl _) (owns_mono hrow4 (show w.heap.size + 1 ≤ w.heap.size + 5 by omega)) hgrow'
    refine hK.out _ _ ((hSSq _ _).2 ⟨(fun h => absurd h (by decide)), (fun _ => em), (fun _ => et), (fun h => absurd h (by decide))⟩) ?_
    clear hK K
    try simp only [Act.put]
    try simp only [List.setIfInBounds_toArray, List.set_cons_zero, List.set_cons_succ]
    have c4 := hv4.cell; have f4 := hv4.frozen
    refine reg_callG 15 ?_ (by kernel_rfl) ?_ (fun K hK => ?_)
    rotate_left 1
    · simp only [List.getElem?_toArray, List.getElem?_cons_succ, List.getElem?_cons_zero]; exact rfl
    go_simp
    refine hK.out _ _ ((hSSq _ _).2 ⟨(fun h => absurd h (by decide)), (fun h => absurd h (by decide)), (fun h => absurd h (by decide)), (fun h => absurd h (by decide))⟩) ?_
    clear hK K
    try simp only [Act.put]
    try simp only [List.setIfInBounds_toArray, List.set_cons_zero, List.set_cons_succ]
    refine wpAnyG_done (by kernel_rfl) ?_ _
    refine OnlyN.normal ?_
    clear hSSq SSq
    have HKO := (HWK'.out.trans hk5).from W0.heap.size
    have hKP : KeepB (fun b => b ≠ w.heap.size + 1 ∧ b < w.heap.size + 5) W (w4.setCell ⟨w.heap.size + 1, 0, none⟩ (.slice (some ⟨g', 0, none⟩) (pre.length + 1) cap')) := by
      intro b hb
      rw [heap_set_far _ _ _ _ _ hb.1, hgrow.block b (by have := hb3.size; omega) (fun e => by have := (hvl _ e.symm).1; omega), hb3.block b (by omega)]
      exact HWK.out b
    refine ⟨HKO, hKP, ⟨⟨_, hv5, ?_, trivial⟩, HKB.out.trans hKP, HB.out.trans ((Below.trans (Below.refl _ _) ?_))⟩⟩
    · have e1 : (pre ++ [(⟨(m, k), by rw [HLN.out]; exact hm, hk⟩ : RB S)]).length = pre.length + 1 := by simp
      have e2 : intCells (rimZ S ((pre ++ [(⟨(m, k), by rw [HLN.out]; exact hm, hk⟩ : RB S)]).map (·.1))) = intCells (rimZ S (pre.map (·.1))) ++ [.int .i64 y] := by
        simp [rimZ, intCells, HVAT.out]
      rw [e1, e2]
      exact hrow4.kept (grownBy_setCell' w4 (w.heap.size + 1) _) (.inr (hv4.not_row (by decide) hrow4).symm)
    · exact HWB.out.trans (hb5.mono (by omega))
  case done =>
    rintro D ys W hD hS ⟨⟨v, hv, hrow, -⟩, hKB, hB⟩ hK
    have hbm : borderM S = (rimZ S (ys.map (·.1))).reverse := by unfold borderM; rw [hS]
    obtain ⟨zs, hzs⟩ : ∃ zs, rimZ S (ys.map (·.1)) = zs := ⟨_, rfl⟩
    rw [hzs] at hrow hbm
    have hzl : zs.length = ys.length := by rw [← hzs]; simp [rimZ]
    have hyl : ys.length ≠ 0 := by
      intro e
      apply HNE.out
      have hz0 : zs = [] := List.eq_nil_of_length_eq_zero (by rw [hzl]; exact e)
      rw [hbm, hz0]; rfl
    obtain ⟨q, hq⟩ : ∃ q, ys.length = q + 1 := ⟨ys.length - 1, by omega⟩
    have hwl : ys.length ≤ S.length := by
      have h1 : (ys.map (·.1)).length = (walkM S (-1) (firstM S (-1)) S.length (firstM S (-1))).length := by rw [hS]
      have h2 := walkM_len S (-1) (firstM S (-1)) S.length (firstM S (-1))
      rw [List.length_map] at h1; omega
    rw [hq] at hrow hzl hwl
    obtain ⟨g, c, rfl⟩ := ownsRow_succ hrow
    have hcap : q + 1 ≤ c := by
      rcases hrow.2 with ⟨h0, -⟩ | ⟨g', cap, cur, hv', -, -, h4, -⟩
      · cases h0
      · simp only [Value.slice.injEq] at hv'
        omega
    have HCAP := Lib.hid hcap
    clear hcap
    have hbx := owns_box hrow
    have hgl := (hrow.lt g rfl)
    have hDg : D ≠ g := by
      intro e
      subst e
      rcases hrow.2 with ⟨h0, -⟩ | ⟨g', cap, cur, hv', -, hg, -⟩
      · cases h0
      · simp only [Value.slice.injEq, Option.some.injEq] at hv'
        obtain ⟨h1, -, -⟩ := hv'
        injection h1 with h1
        subst h1
        rw [hK] at hg; cases hg
    have hrev := reverse_any g (q + 1) c zs W hzl (by omega) (by omega) hbx
    have HREV := Lib.hid hrev; have HBM := Lib.hid hbm; have HZL := Lib.hid hzl
    have co := hv.cell
    clear hrev hbm hS hzs hbx hq hrow hyl hKB hzl
    gi_wp2_with fail
    go_wp2_with fail
    refine HREV.out.mono ?_
    rintro e w5 ⟨rfl, hbx, htu⟩
    have hv5 : Boxed w5 (w.heap.size + 1) 45 _ := (htu.block _ (by omega)).trans hv
    have co5 := hv5.cell
    have hK5 : w5.heap[D]? = some (.deferred (some [])) := (htu.block D hDg).trans hK
    have hB5 : Below w.heap.size w w5 := Go.MagM.Below.turned hB htu (by omega)
    have hBX := Lib.hid hbx; have HGL : g < w5.heap.size := by rw [htu.size]; exact hgl.2
    clear hbx htu co
    go_wp2
    refine ⟨by simp, .inl ⟨_, _, rfl, run_takeDeferred hK5, ?_⟩⟩
    refine ⟨_, results_tmp rfl _ _ _, g, c, ?_, by rw [HBM.out, List.length_reverse, HZL.out]; exact HCAP.out, ?_, by omega, by simp only [World.putObj]; simpa using HGL, hB5.trans (belowK_b (w := w) (Nat.le_refl _) w5 D _ _ (by omega) hK5 rfl rfl)⟩
    · rw [HBM.out, List.length_reverse, HZL.out]; rfl
    · rw [HBM.out]
      have e := World.putObj_heap_other (w := w5) (r := D) (k := g) (o := .deferred none) (fun e => hDg e.symm)
      exact ⟨fun i u hi => (World.cell?_of_block (a := ⟨g, i, none⟩) e).trans (hBX.out.c i u hi), fun i u hi => (World.frozen?_of_block (a := ⟨g, i, none⟩) e).trans (hBX.out.f i u hi)⟩
  case stop =>
    rintro D c pre W _ _ h _
    exact h.elim
theorem border_any {mb pb pc : Nat} {ta : Option Addr} {tc : Nat} {P : List (Int × Int)} {S : List TriM} (w : World) (h : MeshR w mb pb pc ta tc P S) (hP0 : P ≠ []) (hne : borderM S ≠ []) :
    Calls Try.prog 34 #[.pointer (some ⟨mb, 0, none⟩)] w fun e w' => ∃ g c, e = .returned (.slice (some ⟨g, 0, none⟩) (borderM S).length c) ∧ Box w' g (intCells (borderM S)) ∧ w.heap.size ≤ g ∧ g < w'.heap.size ∧ Below w.heap.size w w' := by
  refine (border_room w h hP0 hne).mono ?_
  rintro e w' ⟨g, c, h1, -, h2⟩
  exact ⟨g, c, h1, h2⟩
end Go.Proofs.Ytnabdopnlinklaa
/- slices.Grow, Concat, Min over ints. -/
namespace Go.MagM
open Go.RowKit
section
variable {P : Program}
/-- append, of nothing too. -/
theorem run_append_all (w : World) (base : Nat) (t ty e : TypeId) (i : TypeInfo) (z : Value) (size bytes : Nat) (ht : P.underlying t = some (.slice e)) (hi : P.info? e = some i) (hz : i.zero = some z)
    (hsize : i.size = size) (hby : i.bytes = bytes) (hzs : z.cells.size = size) (hzw : ∀ u ∈ z.cells.toList, NoWord u)
    (v : Value) (n : Nat) (xs : List Value) (hrow : RowN w base e size v n xs)
    (a : Addr) (m c : Nat) (news : List Value) (hl : news.length = m * size) (hnews : ∀ j u, news[j]? = some u → w.cell? (a.add j) = some u) (h1 : ∀ u ∈ news, u.oneCell' = true) (hnw : ∀ u ∈ news, NoWord u)
    (h63 : n + m ≤ maxLen) (hbytes : (n + m) * bytes ≤ 140737488355328) (hbase : base ≤ w.heap.size) :
    ∃ v' w', (Builtin.append_ #[t, t] ty #[v, .slice (some a) m c]).run P w = .ok v' w' ∧ RowN w' base e size v' (n + m) (xs ++ news) ∧ w.grownBy w' v.ownBlock ∧ Kept w w' := by
  by_cases hm : m = 0
  · subst hm
    obtain rfl : news = [] := List.eq_nil_of_length_eq_zero (by omega)
    refine ⟨v, w, ?_, by rw [List.append_nil]; exact hrow, ⟨rfl, rfl, rfl, Nat.le_refl _, fun k _ _ => rfl⟩, Kept.refl w⟩
    rcases hrow.2 with ⟨rfl, rfl⟩ | ⟨g, cap, cur, rfl, _, _, hnc, _⟩
    · simp [Builtin.append_, run_underlying ht, sizeOf, typeInfo, hi, Builtin.lenOf, Builtin.firstCells, loadCells, loadCellsFrom]
    · simp [Builtin.append_, run_underlying ht, sizeOf, typeInfo, hi, Builtin.lenOf, Builtin.firstCells, loadCells, loadCellsFrom, storeCells, hnc]
  · exact run_append_row w base t ty e i z size bytes ht hi hz hsize hby hzs hzw v n xs hrow a m c news (by omega) hl hnews h1 hnw h63 hbytes hbase
/-- append of so many zeros to nothing: room for as many. -/
theorem run_append_made (w : World) (base : Nat) (t u ty e : TypeId) (i : TypeInfo) (z : Value) (ht : P.underlying t = some (.slice e)) (hu : P.underlying u = some (.int .i64)) (hi : P.info? e = some i) (hz : i.zero = some z)
    (hzs : z.cells.size = i.size) (hzw : ∀ u ∈ z.cells.toList, NoWord u) (hs0 : 0 < i.size)
    (n : Nat) (h0 : 0 < n) (h63 : n ≤ maxLen) (hbytes : n * i.bytes ≤ 140737488355328) (hbase : base ≤ w.heap.size) :
    ∃ g c w', (Builtin.append_ #[t, u] ty #[.slice none 0 0, .int .i64 (n : Int)]).run P w = .ok (.slice (some ⟨g, 0, none⟩) n c) w' ∧ n ≤ c ∧ RowN w' base e i.size (.slice (some ⟨g, 0, none⟩) 0 c) 0 [] ∧ Below w.heap.size w w' := by
  have hge := grownCap_ge w n 0 e
  have hcm : grownCap w n 0 e ≤ maxLen := grownCap_le_maxLen w n 0 e h63
  have hm : maxLen = 9223372036854775807 := rfl
  refine ⟨w.heap.size, grownCap w n 0 e, w.drew.alloc (.cells (Builtin.zeroCells z.cells n ++ Builtin.zeroCells z.cells (grownCap w n 0 e - n)) e), ?_, hge, ⟨by simp, .inr ⟨w.heap.size, _, _, rfl, hbase, heap_alloc_new w.drew _, Nat.zero_le _, hcm, ?_, by simp, ?_⟩⟩, (Below.refl _ _).drew'.alloc (Nat.le_refl _) _⟩
  · have hn : ¬ n = 0 := by omega
    have hns : ¬ n * i.size = 0 := Nat.ne_of_gt (Nat.mul_pos h0 hs0)
    have hw : IntKind.i64.wrap (n : Int) = (n : Int) := by rw [IntKind.wrap_i64]; omega
    have hneg : ¬ (n : Int) < 0 := by omega
    have h48 : ¬ (281474976710656 : Int) < (n : Int) * (i.bytes : Int) := by
      have : ((n * i.bytes : Nat) : Int) = (n : Int) * (i.bytes : Int) := by push_cast; rfl
      omega
    have h63' : ¬ (9223372036854775807 < (n : Int)) := by omega
    have h48' : ¬ (281474976710656 < Builtin.nextslicecap n 0 * i.bytes) := by rw [nextslicecap_zero h0]; omega
    simp [Builtin.append_, run_underlying ht, run_underlying hu, sizeOf, typeInfo, zeroValue, hi, hz, hw, hneg, h48, hn, hns, h63', h48', Question.forced, run_firstCells_none, newRow, grownCap, asInt, asIntOf]
  · rw [Array.size_append, size_zeroCells, size_zeroCells, hzs, ← Nat.add_mul]
    congr 1; omega
  · intro u hu
    rw [Array.toList_append, List.mem_append] at hu
    rcases hu with hu | hu
    · exact noWord_zero hzw _ u hu
    · exact noWord_zero hzw _ u hu
theorem wp_append_two {w : World} {o : Oper} {a : Act} {K : Act → World → Prop} {Q : Exit → Act → World → Prop} (s x : Operand) (t t2 : TypeId)
    (ho : o.op = .call { callee := .builtin .append, args := #[s, x], argTypes := #[t, t2] })
    {v v' : Value} {u : Value} {w' : World} (hs : a.eval s = v) (hx : a.eval x = u) (hr : (Builtin.append_ #[t, t2] o.type #[v, u]).run P w = .ok v' w')
    (h : K (a.put o.dst v') w') : o.wp P a w K Q := by
  unfold Oper.wp execOp
  simp only [ho, resolve, invoke, builtin, Sem.run_bind, Sem.run_pure, Result.andThen_ok, List.map_toArray, List.map_cons, List.map_nil, hs, hx, hr]
  exact h
theorem wpList_append_two {ops : Array Oper} {rest : List Oper} {w : World} {o : Oper} {a : Act} {Q : Exit → Act → World → Prop} (hgd : o.guard = none) (s x : Operand) (t t2 : TypeId)
    (ho : o.op = .call { callee := .builtin .append, args := #[s, x], argTypes := #[t, t2] })
    {v v' : Value} {u : Value} {w' : World} (hs : a.eval s = v) (hx : a.eval x = u) (hr : (Builtin.append_ #[t, t2] o.type #[v, u]).run P w = .ok v' w')
    (h : wpList P ops Q rest (a.put o.dst v') w') : wpList P ops Q (o :: rest) a w := wpList_plain hgd fun _ hK => wp_append_two s x t t2 ho hs hx hr (hK _ _ h)
end
/-- The least of the first so many. -/
def minZ (zs : List Int) : Nat → Int
  | 0 => zs.headD 0
  | k + 1 => min (minZ zs k) (zs.getD k 0)
theorem minZ_mem {zs : List Int} (h0 : 0 < zs.length) : ∀ k, k ≤ zs.length → minZ zs k ∈ zs
  | 0, _ => by
    cases zs with
    | nil => simp at h0
    | cons a r => simp [minZ]
  | k + 1, hk => by
    have h := minZ_mem h0 k (by omega)
    rw [minZ]
    have e : zs.getD k 0 = zs[k] := by simp [show k < zs.length by omega]
    rw [e]
    rcases Int.le_total (minZ zs k) zs[k] with g | g
    · rw [Int.min_eq_left g]; exact h
    · rw [Int.min_eq_right g]; exact List.getElem_mem (by omega)
theorem idxZ_mem {zs : List Int} {x : Int} (h : x ∈ zs) : ∃ k : Nat, idxZ zs x = (k : Int) ∧ k < zs.length := by
  unfold idxZ
  cases hf : zs.findIdx? (· == x) with
  | none =>
    rw [List.findIdx?_eq_none_iff] at hf
    exact absurd (hf x h) (by simp)
  | some k =>
    rw [List.findIdx?_eq_some_iff_getElem] at hf
    exact ⟨k, rfl, hf.1⟩
/-- A border, the least point first. -/
def hullL (l : List Int) : List Int := l.drop (idxZ l (minZ l l.length)).toNat ++ l.take (idxZ l (minZ l l.length)).toNat
/-- Two rows, as many of them as have come. -/
def catK (xs ys : List Value) : Nat → List Value
  | 0 => []
  | 1 => xs
  | _ => xs ++ ys
end Go.MagM
namespace Go.Proofs.Ytnabdopnlinklaa
open Go.RowKit Go.MagM
set_option maxRecDepth 100000 in
set_option maxHeartbeats 4000000 in
theorem growI_any (n : Nat) (h0 : 0 < n) (hn9 : n ≤ 1000000) (w : World) :
    Calls Try.prog 52 #[.slice none 0 0, .int .i64 (n : Int)] w fun e w' => ∃ g c, e = .returned (.slice (some ⟨g, 0, none⟩) 0 c) ∧ RowN w' w.heap.size 3 1 (.slice (some ⟨g, 0, none⟩) 0 c) 0 [] ∧ Below w.heap.size w w' := by
  obtain ⟨i0, hi, hz0, hz1, hz2⟩ := info_parts infoI
  obtain ⟨g, c, wa, hrun, hnc, hrow, hb⟩ := run_append_made (P := Try.prog) w w.heap.size 45 3 45 3 i0 (.int .i64 0) (by kernel_rfl) (by kernel_rfl) hi hz0 (by rw [hz1]; rfl) (by intro u hu; simp [Value.cells] at hu; subst hu; exact NoWord.int _) (by omega) n h0 (by unfold maxLen; omega) (by rw [hz2]; omega) (Nat.le_refl _)
  rw [hz1] at hrow
  have HR := Lib.hid hrow; have HB := Lib.hid hb
  clear hrow hb hi hz0 hz1 hz2
  have hp : (0 : Int) < (n : Int) := by omega
  go_enter Try.func52, Try.ntmps52
  go_wp2_with (refine wpList_append_two rfl _ _ 45 3 rfl rfl rfl hrun ?_)
  clear hrun
  go_wp2
  go_ret
  exact ⟨g, c, rfl, HR.out, HB.out⟩
set_option maxRecDepth 100000 in
set_option maxHeartbeats 4000000 in
theorem minI_any (g n c : Nat) (zs : List Int) (w : World) (hn : zs.length = n) (h0 : 0 < n) (hn9 : n ≤ 1000000) (hc : ∀ j v, zs[j]? = some v → w.cell? ⟨g, j, none⟩ = some (.int .i64 v)) :
    Calls Try.prog 37 #[.slice (some ⟨g, 0, none⟩) n c] w fun e w' => e = .returned (.int .i64 (minZ zs n)) ∧ w = w' := by
  obtain ⟨z0, hz0⟩ : ∃ z, zs[0]? = some z := ⟨_, List.getElem?_eq_getElem (by omega)⟩
  have c0 := hc 0 z0 hz0
  have h1 : minZ zs 1 = z0 := by
    cases zs with
    | nil => simp at hz0
    | cons a r => simp at hz0; subst hz0; simp [minZ]
  have HC := Lib.hid hc; have HN := Lib.hid hn; have H1 := Lib.hid h1
  clear hc hn h1 hz0
  have hn1 : ¬ (n : Int) < 1 := by omega
  go_enter Try.func37, Try.ntmps37
  go_wp2
  clear c0
  go_loop [3, 4] (fun mv iv => ∃ k : Nat, 1 ≤ k ∧ k ≤ n ∧ iv = .int .i64 (k : Int) ∧ mv = .int .i64 (minZ zs k)) (fun _ iv => n - (intOf iv).toNat)
  case atStart => exact ⟨1, by omega, by omega, rfl, by rw [H1.out]⟩
  case round =>
    obtain ⟨k, hk1, hk, rfl, rfl⟩ := hrel
    by_cases hlt : k < n
    · obtain ⟨y, hy⟩ : ∃ y, zs[k]? = some y := ⟨_, List.getElem?_eq_getElem (by rw [HN.out]; exact hlt)⟩
      have hcell := HC.out k y hy
      have HM := Lib.hid (show minZ zs (k + 1) = min (minZ zs k) y by rw [minZ]; congr 1; simp [List.getD, hy])
      obtain ⟨m, hm⟩ : ∃ m, minZ zs k = m := ⟨_, rfl⟩
      have HMM := Lib.hid hm
      rw [hm]
      have b1 : (0 : Int) ≤ (k : Int) := by omega
      have b2 : (k : Int) < (n : Int) := by omega
      clear hy hm
      go_wp2
      go_round
      case rel =>
        refine ⟨k + 1, by omega, by omega, by go_num, ?_⟩
        rw [HM.out, HMM.out]
        congr 1
        by_cases hc : y < m
        · rw [if_pos hc]; omega
        · rw [if_neg hc]; omega
      case measure => simp [intOf]; omega
    · obtain rfl : k = n := by omega
      go_wp2
      go_ret
      exact ⟨rfl, rfl⟩
set_option maxRecDepth 100000 in
set_option maxHeartbeats 4000000 in
theorem concatI_any (sb sc n1 c1 n2 c2 : Nat) (a b : Addr) (xs ys : List Value) (w : World) (h0 : 0 < n1 + n2) (h9 : n1 + n2 ≤ 1000000) (hx : xs.length = n1) (hy : ys.length = n2) (hs : Box w sb [.slice (some a) n1 c1, .slice (some b) n2 c2])
    (hcx : ∀ j u, xs[j]? = some u → w.cell? (a.add j) = some u) (hcy : ∀ j u, ys[j]? = some u → w.cell? (b.add j) = some u) (h1 : ∀ u ∈ xs ++ ys, ∃ z : Int, u = .int .i64 z) :
    Calls Try.prog 38 #[.slice (some ⟨sb, 0, none⟩) 2 sc] w fun e w' => ∃ g c, e = .returned (.slice (some ⟨g, 0, none⟩) (n1 + n2) c) ∧ RowN w' w.heap.size 3 1 (.slice (some ⟨g, 0, none⟩) (n1 + n2) c) (n1 + n2) (xs ++ ys) ∧ Below w.heap.size w w' := by
  obtain ⟨i0, hi, hz0, hz1, hz2⟩ := info_parts infoI
  have HI := Lib.hid hi; have HZ0 := Lib.hid hz0; have HZ1 := Lib.hid hz1; have HZ2 := Lib.hid hz2
  have hone : ∀ u ∈ xs ++ ys, u.oneCell' = true := fun u hu => by obtain ⟨z, rfl⟩ := h1 u hu; rfl
  have hnow : ∀ u ∈ xs ++ ys, NoWord u := fun u hu => by obtain ⟨z, rfl⟩ := h1 u hu; exact NoWord.int _
  have d0 := hs.c 0 _ rfl; have d1 := hs.c 1 _ rfl
  have HS := Lib.hid hs; have HX := Lib.hid hx; have HY := Lib.hid hy; have HCX := Lib.hid hcx; have HCY := Lib.hid hcy; have HONE := Lib.hid hone; have HNOW := Lib.hid hnow
  clear hi hz0 hz1 hz2 hs hx hy hcx hcy hone hnow h1
  obtain ⟨sz, hsz⟩ : ∃ f : Nat → Nat, f = fun k => if k = 0 then 0 else if k = 1 then n1 else n1 + n2 := ⟨_, rfl⟩
  have s0 : sz 0 = 0 := by rw [hsz]; rfl
  have s1 : sz 1 = n1 := by rw [hsz]; rfl
  have s2 : sz 2 = n1 + n2 := by rw [hsz]; rfl
  clear hsz
  have S0 := Lib.hid s0; have S1 := Lib.hid s1; have S2 := Lib.hid s2
  clear s0 s1 s2
  go_enter Try.func38, Try.ntmps38
  go_wp2
  go_loop [3, 5, 11] (fun sv _ iv => ∃ k : Nat, k ≤ 2 ∧ iv = .int .i64 (k : Int) ∧ sv = .int .i64 (sz k : Int)) (fun _ _ iv => 2 - (intOf iv).toNat)
  case atStart => exact ⟨0, by omega, rfl, by rw [S0.out]; rfl⟩
  case round =>
    obtain ⟨k, hk, rfl, rfl⟩ := hrel
    obtain rfl | rfl | rfl : k = 0 ∨ k = 1 ∨ k = 2 := by omega
    · rw [S0.out]
      have n1b : ¬ (n1 : Int) < 0 := by omega
      go_wp2
      go_round
      case rel => exact ⟨1, by omega, rfl, by rw [S1.out]⟩
      case measure => simp [intOf]
    · rw [S1.out]
      have n1b : ¬ ((n1 : Int) + (n2 : Int)) < 0 := by omega
      go_wp2
      go_round
      case rel => exact ⟨2, by omega, rfl, by rw [S2.out]; go_num⟩
      case measure => simp [intOf]
    · rw [S2.out]
      have HG := Lib.hid (growI_any (n1 + n2) h0 h9 w)
      have e2 : ((2 : Nat) : Int) = 2 := rfl
      clear d0 d1
      go_wp2_with fail
      refine HG.out.mono ?_
      rintro e wg ⟨g, c, rfl, hrow, hb⟩
      have hs2 := HS.out.below hb
      have d0 := hs2.c 0 _ rfl; have d1 := hs2.c 1 _ rfl
      have HROW := Lib.hid hrow; have HB := Lib.hid hb
      have hbs := hb.size
      clear hrow hb hs2
      go_wp2
      clear d0 d1
      go_loopw [6, 8, 27] (fun nv _ iv wr => ∃ k : Nat, k ≤ 2 ∧ iv = .int .i64 (k : Int) ∧ RowN wr w.heap.size 3 1 nv (sz k) (catK xs ys k) ∧ Below w.heap.size w wr) (fun _ _ iv _ => 2 - (intOf iv).toNat)
      case atStart => exact ⟨0, by omega, rfl, by rw [S0.out]; exact HROW.out, HB.out⟩
      case round =>
        obtain ⟨k, hk, rfl, hrow, hb⟩ := hrel
        have hs2 := HS.out.below hb
        have d0 := hs2.c 0 _ rfl; have d1 := hs2.c 1 _ rfl
        have hbs := hb.size
        obtain rfl | rfl | rfl : k = 0 ∨ k = 1 ∨ k = 2 := by omega
        · rw [S0.out] at hrow
          obtain ⟨v', w', hrun, hrow', hgr, -⟩ := run_append_all (P := Try.prog) wr w.heap.size 45 45 3 i0 (.int .i64 0) 1 8 (by kernel_rfl) HI.out HZ0.out HZ1.out HZ2.out rfl (by intro u hu; simp [Value.cells] at hu; subst hu; exact NoWord.int _) _ 0 _ hrow a n1 c1 xs (by rw [HX.out]; omega)
            (fun j u hj => (hb.cell (World.block_lt_of_cell? w _ (HCX.out j u hj))).trans (HCX.out j u hj)) (fun u hu => HONE.out u (by simp [hu])) (fun u hu => HNOW.out u (by simp [hu])) (by unfold maxLen; omega) (by omega) hbs
          have HR := Lib.hid hrow'; have HB2 := Lib.hid (hb.grown hgr hbs (fun q hq => (hrow.lt q hq).1))
          clear hrow hb hs2 hrow' hgr
          go_wp2_with (refine wpList_append_row rfl _ _ 45 rfl rfl rfl hrun ?_)
          clear hrun d0 d1
          go_wp2
          exact ⟨⟨1, by omega, rfl, by rw [S1.out]; simpa [catK] using HR.out, HB2.out⟩, by simp [intOf]⟩
        · rw [S1.out] at hrow
          obtain ⟨v', w', hrun, hrow', hgr, -⟩ := run_append_all (P := Try.prog) wr w.heap.size 45 45 3 i0 (.int .i64 0) 1 8 (by kernel_rfl) HI.out HZ0.out HZ1.out HZ2.out rfl (by intro u hu; simp [Value.cells] at hu; subst hu; exact NoWord.int _) _ n1 _ hrow b n2 c2 ys (by rw [HY.out]; omega)
            (fun j u hj => (hb.cell (World.block_lt_of_cell? w _ (HCY.out j u hj))).trans (HCY.out j u hj)) (fun u hu => HONE.out u (by simp [hu])) (fun u hu => HNOW.out u (by simp [hu])) (by unfold maxLen; omega) (by omega) hbs
          have HR := Lib.hid hrow'; have HB2 := Lib.hid (hb.grown hgr hbs (fun q hq => (hrow.lt q hq).1))
          clear hrow hb hs2 hrow' hgr
          go_wp2_with (refine wpList_append_row rfl _ _ 45 rfl rfl rfl hrun ?_)
          clear hrun d0 d1
          go_wp2
          exact ⟨⟨2, by omega, rfl, by rw [S2.out]; simpa [catK] using HR.out, HB2.out⟩, by simp [intOf]⟩
        · rw [S2.out] at hrow
          have hrow2 : RowN wr w.heap.size 3 1 _ (n1 + n2) (xs ++ ys) := hrow
          have HB2 := Lib.hid hb
          rcases hrow2.2 with ⟨h1, h2⟩ | ⟨g2, cap, cur, h1, -⟩
          · omega
          · have HR := Lib.hid hrow2
            have e2 : ((2 : Nat) : Int) = 2 := rfl
            clear hrow hb hs2 hrow2 d0 d1
            subst h1
            go_wp2
            go_ret
            exact ⟨g2, cap, rfl, HR.out, HB2.out⟩
end Go.Proofs.Ytnabdopnlinklaa
/- mesh's Hull. Written by tools/mesh16.py. -/
namespace Go.Proofs.Ytnabdopnlinklaa
open Go.RowKit Go.MagM Go.Shelf
theorem intCells_app (l k : List Int) : intCells (l ++ k) = intCells l ++ intCells k := by unfold intCells; rw [List.map_append]
theorem intCells_get {l : List Int} {j : Nat} {z : Int} (h : l[j]? = some z) : (intCells l)[j]? = some (.int .i64 z) := by unfold intCells; rw [List.getElem?_map, h]; rfl
theorem border_le (S : List TriM) : (borderM S).length ≤ S.length := by
  unfold borderM
  rw [List.length_reverse]
  unfold rimZ
  rw [List.length_map]
  exact walkM_len _ _ _ _ _
set_option maxRecDepth 100000 in
set_option maxHeartbeats 8000000 in
theorem Hull_any {mb pb pc : Nat} {ta : Option Addr} {tc : Nat} {P : List (Int × Int)} {S : List TriM} (w : World) (h : MeshR w mb pb pc ta tc P S) (hP0 : P ≠ []) (hne : borderM S ≠ []) :
    Calls Try.prog 16 #[.pointer (some ⟨mb, 0, none⟩)] w fun e w' => ∃ g c, e = .returned (.slice (some ⟨g, 0, none⟩) (borderM S).length c) ∧ Box w' g (intCells (hullL (borderM S))) ∧ w.heap.size ≤ g ∧ g < w'.heap.size ∧ Below w.heap.size w w' := by
  have hbo := border_room w h hP0 hne
  have hble := border_le S
  have hsh := h.short.2
  obtain ⟨L, hL⟩ : ∃ L, borderM S = L := ⟨_, rfl⟩
  rw [hL] at hbo hne hble ⊢
  obtain ⟨n, hn⟩ : ∃ n, L.length = n := ⟨_, rfl⟩
  rw [hn] at hbo hble
  have h0 : 0 < n := by
    rw [← hn]
    exact List.length_pos_iff.2 hne
  have h9 : n ≤ 1000000 := by omega
  have HBO := Lib.hid hbo; have HN := Lib.hid hn; have HN9 := Lib.hid h9
  obtain ⟨k, hk, hkn⟩ := idxZ_mem (minZ_mem (zs := L) (by omega) L.length (Nat.le_refl _))
  have hhl : hullL L = L.drop k ++ L.take k := by unfold hullL; rw [hk, Int.toNat_natCast]
  rw [hn] at hk hkn ⊢
  rw [hhl]
  have HK := Lib.hid hk
  clear hbo hn h9 hne hble hsh hL h hP0 hhl hk
  have e0 : ((n : Int) == 0) = false := by simp; omega
  have e00 : (n == 0) = false := by simp; omega
  go_enter Try.func16, Try.ntmps16
  go_wp2_with fail
  refine HBO.out.mono ?_
  rintro e w1 ⟨g, c, rfl, hcap, hbx, hg1, hg2, hb1⟩
  have hcz : ∀ j v, L[j]? = some v → w1.cell? ⟨g, j, none⟩ = some (.int .i64 v) := fun j v hj => hbx.c j _ (intCells_get hj)
  have HMI := Lib.hid (minI_any g n c L w1 HN.out h0 HN9.out hcz)
  have HIX := Lib.hid (index_any g 0 n c L (minZ L n) w1 HN.out HN9.out (fun j v hj => by rw [Nat.zero_add]; exact hcz j v hj))
  rw [HK.out] at HIX
  have HC1 := Lib.hid (show ∀ j u, (intCells (L.drop k))[j]? = some u → w1.cell? ((⟨g, k, none⟩ : Addr).add j) = some u from fun j u hj => by
    rw [addr_add]
    unfold intCells at hj
    rw [List.getElem?_map, List.getElem?_drop] at hj
    cases hz : L[k + j]? with
    | none => rw [hz] at hj; cases hj
    | some z => rw [hz] at hj; simp at hj; subst hj; exact hcz _ _ hz)
  have HC2 := Lib.hid (show ∀ j u, (intCells (L.take k))[j]? = some u → w1.cell? ((⟨g, 0, none⟩ : Addr).add j) = some u from fun j u hj => by
    rw [addr_add, Nat.zero_add]
    unfold intCells at hj
    rw [List.getElem?_map, List.getElem?_take] at hj
    split at hj
    · cases hz : L[j]? with
      | none => rw [hz] at hj; cases hj
      | some z => rw [hz] at hj; simp at hj; subst hj; exact hcz _ _ hz
    · cases hj)
  have HB1 := Lib.hid hb1; have HGL := Lib.hid hg2; have HG1 := Lib.hid hg1
  have s1 : ∀ w : World, (Instr.slice 45 (.slice (some ⟨g, 0, none⟩) n c) (some (.int .i64 (k : Int))) none none).run Try.prog w = .ok (.slice (some ⟨g, k, none⟩) (n - k) (c - k)) w := by
    intro w
    have h3 : ¬ c = k := by omega
    have h4 : k ≤ n := by omega
    simp [Instr.slice, Instr.sliceBounds, Instr.sliceBound, go_sem, h3, h4, Addr.add]
    exact fun h => h.symm
  have s2 : ∀ w : World, (Instr.slice 45 (.slice (some ⟨g, 0, none⟩) n c) none (some (.int .i64 (k : Int))) none).run Try.prog w = .ok (.slice (some ⟨g, 0, none⟩) k c) w := by
    intro w
    have h2 : ¬ c < k := by omega
    simp [Instr.slice, Instr.sliceBounds, Instr.sliceBound, go_sem, h2, Addr.add]
  clear hbx hcz hb1 hg1 hg2
  go_wp2_with fail
  refine HMI.out.mono ?_
  rintro e w' ⟨rfl, rfl⟩
  go_wp2_with fail
  refine HIX.out.mono ?_
  rintro e w' ⟨rfl, rfl⟩
  go_wp2
  refine wp_region_noPanic ?_
  refine wp_region_held_drew (S := fun w' => True) (by kernel_rfl) (trivial) (fun hHeld => ?_)
  refine reg_take 0 ?_ ?_ ?_ (by kernel_rfl) (by kernel_rfl) (by kernel_rfl) (fun _ _ _ h => h) ?_ ?_ (by assumption) ?_
  rotate_left 2
  · simp only [List.getElem?_toArray, List.getElem?_cons_zero]; exact rfl
  · rfl
  · intro w hSw; (try dsimp only at hSw); go_simp; try with_reducible rfl
  try simp only [Act.put]
  try simp only [List.setIfInBounds_toArray, List.set_cons_zero, List.set_cons_succ]
  refine reg_take 1 ?_ ?_ ?_ (by kernel_rfl) (by kernel_rfl) (by kernel_rfl) (fun _ _ _ h => h) ?_ ?_ (by assumption) ?_
  rotate_left 2
  · simp only [List.getElem?_toArray, List.getElem?_cons_succ, List.getElem?_cons_zero]; exact rfl
  · rfl
  · intro w hSw; (try dsimp only at hSw); go_simp; try with_reducible rfl
  try simp only [Act.put]
  try simp only [List.setIfInBounds_toArray, List.set_cons_zero, List.set_cons_succ]
  refine reg_take 2 ?_ ?_ ?_ (by kernel_rfl) (by kernel_rfl) (by kernel_rfl) (fun _ _ _ h => h) ?_ ?_ (by assumption) ?_
  rotate_left 2
  · simp only [List.getElem?_toArray, List.getElem?_cons_succ, List.getElem?_cons_zero]; exact rfl
  · rfl
  · intro w hSw; (try dsimp only at hSw); go_simp; try with_reducible rfl
  try simp only [Act.put]
  try simp only [List.setIfInBounds_toArray, List.set_cons_zero, List.set_cons_succ]
  refine reg_take 3 ?_ ?_ ?_ (by kernel_rfl) (by kernel_rfl) (by kernel_rfl) (fun _ _ _ h => h) ?_ ?_ (by assumption) ?_
  rotate_left 2
  · simp only [List.getElem?_toArray, List.getElem?_cons_succ, List.getElem?_cons_zero]; exact rfl
  · rfl
  · intro w hSw; (try dsimp only at hSw); go_simp; try with_reducible rfl
  try simp only [Act.put]
  try simp only [List.setIfInBounds_toArray, List.set_cons_zero, List.set_cons_succ]
  refine reg_take 4 ?_ ?_ ?_ (by kernel_rfl) (by kernel_rfl) (by kernel_rfl) (fun _ _ _ h => h) ?_ ?_ (by assumption) ?_
  rotate_left 2
  · simp only [List.getElem?_toArray, List.getElem?_cons_succ, List.getElem?_cons_zero]; exact rfl
  · rfl
  · intro w hSw; (try dsimp only at hSw); go_simp; try with_reducible rfl
  try simp only [Act.put]
  try simp only [List.setIfInBounds_toArray, List.set_cons_zero, List.set_cons_succ]
  refine reg_take 5 ?_ ?_ ?_ (by kernel_rfl) (by kernel_rfl) (by kernel_rfl) (fun _ _ _ h => h) ?_ ?_ (by assumption) ?_
  rotate_left 2
  · simp only [List.getElem?_toArray, List.getElem?_cons_succ, List.getElem?_cons_zero]; exact rfl
  · rfl
  · intro w hSw; (try dsimp only at hSw); go_simp; try with_reducible rfl
  try simp only [Act.put]
  try simp only [List.setIfInBounds_toArray, List.set_cons_zero, List.set_cons_succ]
  refine reg_call 6 ?_ (by kernel_rfl) ?_ (fun K hK => ?_)
  rotate_left 1
  · simp only [List.getElem?_toArray, List.getElem?_cons_succ, List.getElem?_cons_zero]; exact rfl
  obtain ⟨w3, hw3, pz, hb3, hs3⟩ := new_box w1.drew _ rfl [.slice (some ⟨g, k, none⟩) (n - k) (c - k), .slice (some ⟨g, 0, none⟩) k c] 45
  go_simp
  try rw [hw3]
  refine hK.out _ _ (trivial) (fun hHeld => ?_)
  clear hK K
  try simp only [Act.put]
  try simp only [List.setIfInBounds_toArray, List.set_cons_zero, List.set_cons_succ]
  refine reg_call 7 ?_ (by kernel_rfl) ?_ (fun K hK => ?_)
  rotate_left 1
  · simp only [List.getElem?_toArray, List.getElem?_cons_succ, List.getElem?_cons_zero]; exact rfl
  have hb13 := ((Below.refl w1.heap.size w1).drew').trans (hb3.mono (Nat.le_refl _))
  have HCO := Lib.hid (concatI_any w1.drew.heap.size 2 (n - k) (c - k) k c ⟨g, k, none⟩ ⟨g, 0, none⟩ (intCells (L.drop k)) (intCells (L.take k)) w3 (by omega) (by have := HN9.out; omega) (by rw [intCells_len, List.length_drop, HN.out]) (by rw [intCells_len, List.length_take, HN.out]; omega) pz (fun j u hj => by have h1 := HC1.out j u hj; rw [addr_add] at h1 ⊢; exact (hb13.cell (p := ⟨g, k + j, none⟩) HGL.out).trans h1) (fun j u hj => by have h1 := HC2.out j u hj; rw [addr_add] at h1 ⊢; exact (hb13.cell (p := ⟨g, 0 + j, none⟩) HGL.out).trans h1) (fun u hu => by rcases List.mem_append.1 hu with h | h <;> (unfold intCells at h; obtain ⟨z, -, rfl⟩ := List.mem_map.1 h; exact ⟨z, rfl⟩)))
  go_simp
  refine HCO.out.mono ?_
  rintro e w4 ⟨g4, c4, rfl, hrow, hb4⟩
  have hb14 := hb13.trans (hb4.mono hb13.size)
  have FIN := Lib.hid (And.intro hrow (And.intro hb4.size (HB1.out.trans (hb14.mono HB1.out.size))))
  have HSZ := Lib.hid hb13.size
  clear hrow hb4 hb14 hb13
  go_wp2_with fail
  refine hK.out _ _ (trivial) (fun hHeld => ?_)
  clear hK K
  try simp only [Act.put]
  try simp only [List.setIfInBounds_toArray, List.set_cons_zero, List.set_cons_succ]
  refine reg_take 8 ?_ ?_ ?_ (by kernel_rfl) (by kernel_rfl) (by kernel_rfl) (fun _ _ _ h => h) ?_ ?_ (by assumption) ?_
  rotate_left 2
  · simp only [List.getElem?_toArray, List.getElem?_cons_succ, List.getElem?_cons_zero]; exact rfl
  · rfl
  · intro w hSw; (try dsimp only at hSw); go_simp; try with_reducible rfl
  try simp only [Act.put]
  try simp only [List.setIfInBounds_toArray, List.set_cons_zero, List.set_cons_succ]
  refine wpAnyH_done (by kernel_rfl) ?_ _
  refine NoPanic.normal ?_
  go_wp2
  go_ret
  have hrow := FIN.out.1
  have hlt := hrow.lt g4 rfl
  have hsz := HSZ.out
  have hb1s := HB1.out.size
  rw [show n - k + k = n by omega, ← intCells_app] at hrow
  have hbx := owns_box hrow.own
  refine ⟨g4, c4, ?_, hbx, by omega, hlt.2, FIN.out.2.2⟩
  rw [show n - k + k = n by omega]; rfl
end Go.Proofs.Ytnabdopnlinklaa
/- A part of a box is written. Over no program. -/
namespace Go.MagM
open Go.RowKit
section
variable {P : Program}
theorem run_storeCells_box {g : Nat} (off : Nat) : ∀ (xs : List Value) (i : Nat) {w : World} {vs : List Value}, Box w g vs → off + i + xs.length ≤ vs.length → (∀ v ∈ xs, v.oneCell' = true) → (storeCells ⟨g, off, none⟩ xs i).run P w = .ok () (Go.MagM.setAll w g (off + i) xs)
  | [], i, w, _, _, _, _ => rfl
  | x :: xs, i, w, vs, hb, hl, h1 => by
    have hl' : off + i + (xs.length + 1) ≤ vs.length := by simpa using hl
    have ho : vs[off + i]? = some (vs[off + i]'(by omega)) := List.getElem?_eq_getElem (by omega)
    have hc := hb.c (off + i) _ ho
    have hf := hb.f (off + i) _ ho
    have ha : (⟨g, off, none⟩ : Addr).add i = ⟨g, off + i, none⟩ := by unfold Addr.add; split <;> simp_all
    have ih := run_storeCells_box off xs (i + 1) (hb.set (off + i) x) (by simpa using by omega) (fun v hv => h1 v (by simp [hv]))
    rw [storeCells, Sem.run_bind, run_store P w _ x .plain (h1 x (by simp)), ha, hc]
    simp only [hf, Bool.false_eq_true, if_false, Result.andThen_ok]
    exact ih
/-- A store of several cells into a box. -/
theorem wp_store_box {o : Oper} {a : Act} {w : World} {K : Act → World → Prop} {Q : Exit → Act → World → Prop} (ty : TypeId) (x y : Operand) (ho : o.op = .store ty x y)
    {g off : Nat} {vs : List Value} (xs : List Value) (hb : Box w g vs) (hx : a.eval x = .pointer (some ⟨g, off, none⟩)) (hy : a.eval y = .agg xs.toArray) (hi : (P.info? ty).map (·.size) = some xs.length)
    (hl : off + xs.length ≤ vs.length) (h1 : xs.all (·.oneCell') = true) {w' : World} (hw : Go.MagM.setAll w g off xs = w') (h : K (a.put o.dst undef) w') : o.wp P a w K Q := by
  have hr := run_storeCells_box (P := P) off xs 0 hb (by omega) (fun v hv => List.all_eq_true.1 h1 v hv)
  have hr2 : (storeVar ty ⟨g, off, none⟩ (.agg xs.toArray)).run P w = .ok () (Go.MagM.setAll w g off xs) := by
    cases hq : P.info? ty with
    | none => simp [hq] at hi
    | some i =>
      have hs : xs.length = i.size := by simp [hq] at hi; omega
      simp only [Nat.add_zero] at hr
      simp [storeVar, sizeOf, typeInfo, hq, Value.cells, hs, hr]
  unfold Oper.wp execOp
  simp only [ho, hx, hy, Instr.storeAt, Instr.sureAddr, Sem.run_bind, Sem.run_pure, Result.andThen_ok, hr2]
  rw [hw]; exact h
theorem wpList_store_box {ops : Array Oper} {rest : List Oper} {o : Oper} {a : Act} {w : World} {Q : Exit → Act → World → Prop} (hg : o.guard = none) (ty : TypeId) (x y : Operand) (ho : o.op = .store ty x y)
    {g off : Nat} {vs : List Value} (xs : List Value) (hb : Box w g vs) (hx : a.eval x = .pointer (some ⟨g, off, none⟩)) (hy : a.eval y = .agg xs.toArray) (hi : (P.info? ty).map (·.size) = some xs.length)
    (hl : off + xs.length ≤ vs.length) (h1 : xs.all (·.oneCell') = true) {w' : World} (hw : Go.MagM.setAll w g off xs = w') (h : wpList P ops Q rest (a.put o.dst undef) w') : wpList P ops Q (o :: rest) a w :=
  wpList_plain hg fun _ hK => wp_store_box ty x y ho xs hb hx hy hi hl h1 hw (hK _ _ h)
end
end Go.MagM
/- A mesh that may be written: its triangles lie in a row of their own. Over any program. -/
namespace Go.MagM
open Go.RowKit
/-- Cells i, i + 1, .. of a list are written. -/
def setL (vs : List Value) : Nat → List Value → List Value
  | _, [] => vs
  | i, x :: xs => setL (vs.set i x) (i + 1) xs
theorem setL_get : ∀ (xs vs : List Value) (i j : Nat), i + xs.length ≤ vs.length → (setL vs i xs)[j]? = if i ≤ j ∧ j < i + xs.length then xs[j - i]? else vs[j]?
  | [], vs, i, j, _ => by rw [setL, if_neg (by simp)]
  | x :: xs, vs, i, j, h => by
    have hl : i + (xs.length + 1) ≤ vs.length := by simpa using h
    rw [setL, setL_get xs (vs.set i x) (i + 1) j (by rw [List.length_set]; omega), List.getElem?_set, List.length_cons]
    by_cases h1 : i = j
    · subst h1
      rw [if_neg (by omega), if_pos rfl, if_pos (by omega), if_pos (by omega), Nat.sub_self]; rfl
    · by_cases h2 : i + 1 ≤ j ∧ j < i + 1 + xs.length
      · rw [if_pos h2, if_pos (by omega), show j - i = (j - (i + 1)) + 1 by omega]; rfl
      · rw [if_neg h2, if_neg h1, if_neg (by omega)]
theorem TriM.cells_len (T : TriM) : T.cells.length = 9 := rfl
theorem setL_tri {S : List TriM} {k : Nat} (hk : k < S.length) (T : TriM) : setL (triCells S) (k * 9) T.cells = triCells (S.set k T) := by
  have hl : k * 9 + T.cells.length ≤ (triCells S).length := by rw [triCells_len, T.cells_len]; omega
  refine List.ext_getElem? fun j => ?_
  rw [setL_get _ _ _ _ hl, T.cells_len]
  by_cases hj : j < S.length * 9
  · obtain ⟨q, r, hr, rfl⟩ : ∃ q r, r < 9 ∧ j = q * 9 + r := ⟨j / 9, j % 9, Nat.mod_lt _ (by omega), by omega⟩
    have hq : q < S.length := by omega
    by_cases hqk : q = k
    · subst hqk
      rw [if_pos (by omega), triCells_get (S.set q T) q r T (by rw [List.getElem?_set, if_pos rfl, if_pos hq]) hr, show q * 9 + r - q * 9 = r by omega]
    · rw [if_neg (by omega)]
      obtain ⟨U, hU⟩ : ∃ U, S[q]? = some U := ⟨_, List.getElem?_eq_getElem hq⟩
      rw [triCells_get S q r U hU hr, triCells_get (S.set k T) q r U (by rw [List.getElem?_set, if_neg (fun e => hqk e.symm)]; exact hU) hr]
  · rw [if_neg (by omega), List.getElem?_eq_none (by rw [triCells_len]; omega), List.getElem?_eq_none (by rw [triCells_len, List.length_set]; omega)]
theorem owns_put {w : World} {base : Nat} {e : TypeId} {size g n c : Nat} {xs : List Value} (h : w.ownsRow base e size (.slice (some ⟨g, 0, none⟩) n c) n xs) (j : Nat) (u : Value) :
    (w.setCell ⟨g, j, none⟩ u).ownsRow base e size (.slice (some ⟨g, 0, none⟩) n c) n (xs.set j u) := by
  refine ⟨by rw [List.length_set]; exact h.1, ?_⟩
  rcases h.2 with ⟨h0, _⟩ | ⟨g', cap, cur, h1, h2, h3, h4, h5, h6, h7⟩
  · cases h0
  · simp only [Value.slice.injEq, Option.some.injEq] at h1
    obtain ⟨h1, -, rfl⟩ := h1
    injection h1 with h1
    subst h1
    refine .inr ⟨g, c, cur.setIfInBounds j u, rfl, h2, ?_, h4, h5, by simpa using h6, ?_⟩
    · simp only [World.setCell, Array.getElem?_modify, if_true]
      rw [h3]
      rfl
    · rw [Array.toList_setIfInBounds, List.take_set, h7]
theorem owns_setAll {base : Nat} {e : TypeId} {size g n c : Nat} : ∀ (ys : List Value) (i : Nat) {w : World} {xs : List Value}, w.ownsRow base e size (.slice (some ⟨g, 0, none⟩) n c) n xs →
    (setAll w g i ys).ownsRow base e size (.slice (some ⟨g, 0, none⟩) n c) n (setL xs i ys)
  | [], _, _, _, h => h
  | y :: ys, i, _, _, h => owns_setAll ys (i + 1) (owns_put h i y)
theorem turned_setAll {w : World} {g : Nat} : ∀ (ys : List Value) (i : Nat) {w'' : World}, Turned w w'' g → Turned w (setAll w'' g i ys) g
  | [], _, _, h' => h'
  | y :: ys, i, _, h' => turned_setAll ys (i + 1) (h'.setCell i y)
def ptsCells : List (Int × Int) → List Value
  | [] => []
  | q :: t => [.int .i64 q.1, .int .i64 q.2] ++ ptsCells t
theorem ptsCells_len : ∀ l, (ptsCells l).length = l.length * 2
  | [] => rfl
  | q :: t => by rw [ptsCells, List.length_append, ptsCells_len t, List.length_cons]; simp; omega
theorem ptsCells_app : ∀ l k, ptsCells (l ++ k) = ptsCells l ++ ptsCells k
  | [], _ => rfl
  | q :: t, k => by rw [List.cons_append, ptsCells, ptsCells_app t k, ptsCells, List.append_assoc]
theorem ptsCells_get : ∀ (l : List (Int × Int)) (i : Nat) (x y : Int), l[i]? = some (x, y) → (ptsCells l)[i * 2]? = some (.int .i64 x) ∧ (ptsCells l)[i * 2 + 1]? = some (.int .i64 y)
  | [], _, _, _, h => by simp at h
  | q :: t, 0, x, y, h => by simp at h; subst h; exact ⟨rfl, rfl⟩
  | q :: t, i + 1, x, y, h => by
    have := ptsCells_get t i x y (by simpa using h)
    rw [ptsCells, List.getElem?_append_right (by simp; omega), List.getElem?_append_right (by simp; omega)]
    rw [show (i + 1) * 2 - [Value.int .i64 q.1, Value.int .i64 q.2].length = i * 2 by simp; omega, show (i + 1) * 2 + 1 - [Value.int .i64 q.1, Value.int .i64 q.2].length = i * 2 + 1 by simp; omega]
    exact this
/-- A mesh lies at mb; nothing of it below lo; its triangles are the slice tv, in a row of their own (of elements e). -/
structure MeshO (p e : TypeId) (w : World) (lo mb pb pc : Nat) (tv : Value) (P : List (Int × Int)) (S : List TriM) : Prop where
  box : Box w mb [.slice (some ⟨pb, 0, none⟩) P.length pc, tv]
  prow : w.ownsRow lo p 2 (.slice (some ⟨pb, 0, none⟩) P.length pc) P.length (ptsCells P)
  row : w.ownsRow lo e 9 tv S.length (triCells S)
  low : lo ≤ mb ∧ mb < w.heap.size ∧ pb < w.heap.size ∧ pb ≠ mb
  apart : tv.ownBlock ≠ some mb ∧ tv.ownBlock ≠ some pb
  short : P.length ≤ 1000000 ∧ S.length ≤ 1000000
theorem MeshO.pts {p e : TypeId} {w : World} {lo mb pb pc : Nat} {tv : Value} {P : List (Int × Int)} {S : List TriM} (h : MeshO p e w lo mb pb pc tv P S) : PtsIn w pb P := fun i x y hi => by
  obtain ⟨h1, h2⟩ := ptsCells_get P i x y hi
  have hb := owns_box h.prow
  exact ⟨hb.c _ _ h1, hb.c _ _ h2⟩
/-- As it is read. -/
theorem MeshO.read {p e : TypeId} {w : World} {lo mb pb pc : Nat} {tv : Value} {P : List (Int × Int)} {S : List TriM} (h : MeshO p e w lo mb pb pc tv P S) : ∃ ta tc, tv = .slice ta S.length tc ∧ MeshR w mb pb pc ta tc P S := by
  have hb := h.box
  rcases h.row.2 with ⟨rfl, h0⟩ | ⟨g, cap, cur, rfl, h2, h3, h4⟩
  · have hS : S = [] := List.eq_nil_of_length_eq_zero h0
    subst hS
    exact ⟨none, 0, rfl, hb, h.pts, fun i T hi => by simp at hi, h.short⟩
  · refine ⟨_, cap, rfl, hb, h.pts, fun i T hi => ⟨g, rfl, fun j v hj => ?_⟩, h.short⟩
    have hx := owns_box h.row
    exact hx.c _ _ (by rw [triCells_get S i j T hi (by have := (List.getElem?_eq_some_iff.1 hj).1; exact this)]; exact hj)
/-- What a call that writes a mesh leaves. -/
structure Mut (w w' : World) (mb : Nat) (tv tv' : Value) : Prop where
  os : w'.os = w.os
  tape : w'.tape = w.tape
  output : w'.output = w.output
  size : w.heap.size ≤ w'.heap.size
  keep : ∀ k, k < w.heap.size → k ≠ mb → tv.ownBlock ≠ some k → w'.heap[k]? = w.heap[k]? ∧ tv'.ownBlock ≠ some k
theorem Mut.refl (w : World) (mb : Nat) (tv : Value) : Mut w w mb tv tv := ⟨rfl, rfl, rfl, Nat.le_refl _, fun _ _ _ h => ⟨rfl, h⟩⟩
theorem Mut.trans {a b c : World} {mb : Nat} {t u v : Value} (h : Mut a b mb t u) (k : Mut b c mb u v) : Mut a c mb t v :=
  ⟨k.os.trans h.os, k.tape.trans h.tape, k.output.trans h.output, Nat.le_trans h.size k.size, fun i hi h1 h2 => by
    obtain ⟨e1, e2⟩ := h.keep i hi h1 h2
    obtain ⟨e3, e4⟩ := k.keep i (Nat.lt_of_lt_of_le hi h.size) h1 e2
    exact ⟨e3.trans e1, e4⟩⟩
theorem Mut.below {w w' : World} {mb B : Nat} {tv tv' : Value} (h : Mut w w' mb tv tv') (hB : B ≤ w.heap.size) (hm : B ≤ mb) (ht : ∀ k, tv.ownBlock = some k → B ≤ k) : Below B w w' :=
  ⟨h.os, h.tape, h.output, h.size, fun k hk => (h.keep k (by omega) (by omega) (fun e => by have := ht k e; omega)).1⟩
/-- What lies where no mesh is. -/
theorem Mut.of_below {w w' : World} {mb : Nat} {tv : Value} (h : Below w.heap.size w w') (_ht : ∀ k, tv.ownBlock = some k → k < w.heap.size) : Mut w w' mb tv tv :=
  ⟨h.os, h.tape, h.output, h.size, fun k hk _ h2 => ⟨h.block k hk, h2⟩⟩
theorem MeshO.below {p e : TypeId} {w w' : World} {lo mb pb pc : Nat} {tv : Value} {P : List (Int × Int)} {S : List TriM} (h : MeshO p e w lo mb pb pc tv P S) (hb : Below w.heap.size w w') : MeshO p e w' lo mb pb pc tv P S :=
  ⟨h.box.below hb, owns_blow h.prow hb, owns_blow h.row hb, by have := h.low; have := hb.size; omega, h.apart, h.short⟩
theorem MeshO.drew {p e : TypeId} {w : World} {lo mb pb pc : Nat} {tv : Value} {P : List (Int × Int)} {S : List TriM} (h : MeshO p e w lo mb pb pc tv P S) : MeshO p e w.drew lo mb pb pc tv P S :=
  ⟨h.box.drew, h.prow, h.row, h.low, h.apart, h.short⟩
theorem Box.same {w w' : World} {g : Nat} {vs : List Value} (h : Box w g vs) (e : w'.heap[g]? = w.heap[g]?) : Box w' g vs :=
  ⟨fun i u hi => (World.cell?_of_block (a := ⟨g, i, none⟩) e).trans (h.c i u hi), fun i u hi => (World.frozen?_of_block (a := ⟨g, i, none⟩) e).trans (h.f i u hi)⟩
theorem PtsIn.same {w w' : World} {b : Nat} {l : List (Int × Int)} (h : PtsIn w b l) (e : w'.heap[b]? = w.heap[b]?) : PtsIn w' b l := fun i x y hi => by
  obtain ⟨h1, h2⟩ := h i x y hi
  exact ⟨(World.cell?_of_block (a := ⟨b, i * 2, none⟩) e).trans h1, (World.cell?_of_block (a := ⟨b, i * 2 + 1, none⟩) e).trans h2⟩
theorem owns_same {w w' : World} {base : Nat} {e : TypeId} {size : Nat} {v : Value} {n : Nat} {xs : List Value} (h : w.ownsRow base e size v n xs) (hs : ∀ k, v.ownBlock = some k → w'.heap[k]? = w.heap[k]?) : w'.ownsRow base e size v n xs := by
  refine ⟨h.1, ?_⟩
  rcases h.2 with hn | ⟨g, cap, cur, rfl, h2, h3, h4⟩
  · exact .inl hn
  · exact .inr ⟨g, cap, cur, rfl, h2, (hs g rfl).trans h3, h4⟩
/-- Another mesh stays. -/
theorem MeshO.mut {p e : TypeId} {w w' : World} {lo mb pb pc : Nat} {tv : Value} {P : List (Int × Int)} {S : List TriM} (h : MeshO p e w lo mb pb pc tv P S) {mb2 : Nat} {tv2 tv2' : Value} (hm : Mut w w' mb2 tv2 tv2')
    (h1 : mb ≠ mb2 ∧ tv2.ownBlock ≠ some mb) (h2 : pb ≠ mb2 ∧ tv2.ownBlock ≠ some pb) (h3 : ∀ k, tv.ownBlock = some k → k ≠ mb2 ∧ tv2.ownBlock ≠ some k) : MeshO p e w' lo mb pb pc tv P S := by
  have e1 := (hm.keep mb h.low.2.1 h1.1 h1.2).1
  have e2 := (hm.keep pb h.low.2.2.1 h2.1 h2.2).1
  refine ⟨h.box.same e1, owns_same h.prow (fun k hk => by obtain rfl : k = pb := (by simpa [Value.ownBlock] using hk.symm); exact e2), owns_same h.row fun k hk => ?_, by have := h.low; have := hm.size; omega, h.apart, h.short⟩
  have h4 := h3 k hk
  exact (hm.keep k (h.row.lt k hk).2 h4.1 h4.2).1
/-- A triangle of a mesh is written in place. -/
theorem MeshO.setT {p e : TypeId} {w : World} {lo mb pb pc g c : Nat} {P : List (Int × Int)} {S : List TriM} (h : MeshO p e w lo mb pb pc (.slice (some ⟨g, 0, none⟩) S.length c) P S) {S' : List TriM} (i : Nat) (ys : List Value) (hl : S'.length = S.length) (hs : setL (triCells S) i ys = triCells S') :
    MeshO p e (setAll w g i ys) lo mb pb pc (.slice (some ⟨g, 0, none⟩) S.length c) P S' ∧ Mut w (setAll w g i ys) mb (.slice (some ⟨g, 0, none⟩) S.length c) (.slice (some ⟨g, 0, none⟩) S.length c) := by
  have ht : Turned w (setAll w g i ys) g := turned_setAll ys i (Turned.refl w g)
  have hmg : mb ≠ g := fun e => h.apart.1 (by rw [e]; rfl)
  have hpg : pb ≠ g := fun e => h.apart.2 (by rw [e]; rfl)
  refine ⟨⟨h.box.same (ht.block mb hmg), owns_same h.prow (fun k hk => by obtain rfl : k = pb := (by simpa [Value.ownBlock] using hk.symm); exact ht.block _ hpg), ?_, by rw [ht.size]; exact h.low, h.apart, by rw [hl]; exact h.short⟩, ⟨ht.os, ht.tape, ht.output, by rw [ht.size]; exact Nat.le_refl _, fun k _ _ h2 => ⟨ht.block k (fun e => h2 (by rw [e]; rfl)), h2⟩⟩⟩
  have := owns_setAll ys i h.row
  rw [hs] at this
  rw [hl]; exact this
end Go.MagM
/- mesh's check: Sound. -/
namespace Go.Proofs.Ytnabdopnlinklaa
open Go.RowKit Go.MagM
/-- A triangle is as it should be, or gone. -/
def okT (P : List (Int × Int)) (S : List TriM) (t : Nat) (T : TriM) : Bool := goneB T || (formedT P S T && linkedT S t T)
/-- So many of the first k have Ghost. -/
def ghN (S : List TriM) : Nat → Nat
  | 0 => 0
  | k + 1 => ghN S k + if placeM S (k : Int) (-1) = -1 then 0 else 1
theorem ghN_none {S : List TriM} {k : Nat} (h : placeM S (k : Int) (-1) = -1) : ghN S (k + 1) = ghN S k := by
  show ghN S k + _ = _; rw [if_pos h]; rfl
theorem ghN_some {S : List TriM} {k : Nat} (h : placeM S (k : Int) (-1) ≠ -1) : ghN S (k + 1) = ghN S k + 1 := by
  show ghN S k + _ = _; rw [if_neg h]
theorem ghN_le (S : List TriM) : ∀ k, ghN S k ≤ k
  | 0 => Nat.le_refl _
  | k + 1 => by have := ghN_le S k; unfold ghN; split <;> omega
/-- What Sound answers. -/
def SoundIs (P : List (Int × Int)) (S : List TriM) (r : Bool) : Prop :=
  (r = false ∧ ∃ k T, S[k]? = some T ∧ okT P S k T = false) ∨
  (r = true ∧ (∀ k T, S[k]? = some T → okT P S k T = true) ∧ borderM S ≠ [] ∧ (borderM S).length = ghN S S.length ∧ ∃ hs : List Nat, borderM S = hs.map (fun v : Nat => (v : Int)) ∧ (∀ v, v ∈ hs → v < P.length) ∧ convexM P hs = true)
set_option maxRecDepth 100000 in
set_option maxHeartbeats 16000000 in
theorem Sound_any {mb pb pc : Nat} {ta : Option Addr} {tc : Nat} {P : List (Int × Int)} {S : List TriM} (r : Bool) (w : World) (h : MeshR w mb pb pc ta tc P S) (hP : InPs P) (hP0 : P ≠ []) (hr : SoundIs P S r) :
    Calls Try.prog 15 #[.pointer (some ⟨mb, 0, none⟩)] w fun e w' => e = .returned (.bool r) ∧ Below w.heap.size w w' := by
  have hsh := h.short.2
  have H := Lib.hid h; have HR := Lib.hid hr; have HPS := Lib.hid hP; have HP0 := Lib.hid hP0
  obtain ⟨b0, b1, -, -⟩ := h.box.open2
  clear h hr hP hP0
  go_enter Try.func15, Try.ntmps15
  go_wp2
  clear b0 b1
  go_loopw [3, 4, 13] (fun gv _ iv wr => ∃ k : Nat, k ≤ S.length ∧ iv = .int .i64 k ∧ gv = .int .i64 (ghN S k : Nat) ∧ (∀ j T, j < k → S[j]? = some T → okT P S j T = true) ∧ Below w.heap.size w wr) (fun _ _ iv _ => S.length - (intOf iv).toNat)
  case atStart => exact ⟨0, Nat.zero_le _, rfl, rfl, fun j T hj => by omega, Below.refl _ _⟩
  case round =>
    obtain ⟨k, hk, rfl, rfl, hne, hB_0⟩ := hrel
    have HNE := Lib.hid hne; clear hne
    have hgn := ghN_le S k
    by_cases hlt : k < S.length
    · obtain ⟨T, hT⟩ : ∃ T, S[k]? = some T := ⟨_, List.getElem?_eq_getElem hlt⟩
      have hm_0 := H.out.below hB_0
      have b0 := hm_0.box.c0; have b1 := hm_0.box.c1
      obtain ⟨tb, hta, htl, ht9⟩ := hm_0.tris.get hT
      subst hta
      have HT := Lib.hid hT
      have hgone := gone_any tb (k * 9) T wr ht9.c0 ht9.c1 ht9.c2
      obtain ⟨ok, hok⟩ : ∃ ok, okT P S k T = ok := ⟨_, rfl⟩
      have hstep : ok = true → ∀ j T', j < k + 1 → S[j]? = some T' → okT P S j T' = true := by
        intro e j T' hj hT'
        rcases Nat.lt_or_ge j k with g | g
        · exact HNE.out j T' g hT'
        · obtain rfl : j = k := by omega
          rw [HT.out] at hT'; cases hT'
          rw [hok, e]
      have hbad : ok = false → r = false := by
        intro e
        rcases HR.out with h | h
        · exact h.1
        · have := h.2.1 k T HT.out
          rw [hok, e] at this; cases this
      have HSTEP := Lib.hid hstep; have HBAD := Lib.hid hbad
      have hpk : placeM S (k : Int) (-1) = if goneB T then -1 else placeT T (-1) := by unfold placeM; rw [getT_nat, HT.out]
      unfold okT at hok
      clear hT hstep hbad
      cases hg : goneB T with
      | true =>
        rw [hg] at hgone hok hpk
        simp only [Bool.true_or, if_true] at hok hpk
        have HG := Lib.hid hgone; have HPK := Lib.hid hpk; have HOK := Lib.hid hok
        clear hg hgone hok hpk ht9
        go_wp2_with fail
        refine HG.out.mono ?_
        rintro e w' ⟨rfl, rfl⟩
        go_wp2
        go_roundw
        case rel => exact ⟨k + 1, by omega, by go_num, by rw [ghN_none HPK.out], HSTEP.out HOK.out.symm, hB_0⟩
        case measure => simp [intOf]; omega
      | false =>
        rw [hg] at hgone hok hpk
        simp only [Bool.false_or, Bool.false_eq_true, if_false] at hok hpk
        have hform := formed_any k T wr hm_0 HPS.out HT.out
        have hlink := fun w' (hb : Below wr.heap.size wr w') => linked_any k T w' (hm_0.below hb) HT.out
        have hplace := fun w' (hb : Below wr.heap.size wr w') => place_any (k : Int) (-1) w' (hm_0.below hb)
        obtain ⟨fo, hfo⟩ : ∃ fo, formedT P S T = fo := ⟨_, rfl⟩
        obtain ⟨li, hli⟩ : ∃ li, linkedT S k T = li := ⟨_, rfl⟩
        obtain ⟨pl, hpl⟩ : ∃ pl, placeM S (k : Int) (-1) = pl := ⟨_, rfl⟩
        rw [hfo] at hform hok
        simp only [hli] at hlink hok
        simp only [hpl] at hplace
        have HG := Lib.hid hgone; have HPK := Lib.hid hpl; have HOK := Lib.hid hok; have HF := Lib.hid hform; have HL := Lib.hid hlink; have HPL := Lib.hid hplace
        clear hg hgone hok hpk ht9 hform hlink hplace hfo hli hpl hm_0 b0 b1
        have hm_0 := H.out.below hB_0
        have b0 := hm_0.box.c0; have b1 := hm_0.box.c1
        cases fo with
        | false =>
          have hr' : r = false := HBAD.out (by rw [← HOK.out]; rfl)
          subst hr'
          go_wp2_with fail
          refine HG.out.mono ?_
          rintro e w' ⟨rfl, rfl⟩
          go_wp2_with fail
          refine HF.out.mono ?_
          rintro e w2 ⟨rfl, hb2⟩
          go_wp2
          go_ret
          exact ⟨rfl, hB_0.trans (hb2.mono hB_0.size)⟩
        | true =>
          cases li with
          | false =>
            have hr' : r = false := HBAD.out (by rw [← HOK.out]; rfl)
            subst hr'
            go_wp2_with fail
            refine HG.out.mono ?_
            rintro e w' ⟨rfl, rfl⟩
            go_wp2_with fail
            refine HF.out.mono ?_
            rintro e w2 ⟨rfl, hb2⟩
            go_wp2_with fail
            refine (HL.out _ hb2).mono ?_
            rintro e w3 ⟨rfl, hd3⟩
            go_wp2
            go_ret
            exact ⟨rfl, hB_0.trans ((hb2.trans (hd3.below.mono hb2.size)).mono hB_0.size)⟩
          | true =>
            have HSK := Lib.hid (HSTEP.out (by rw [← HOK.out]; rfl))
            go_wp2_with fail
            refine HG.out.mono ?_
            rintro e w' ⟨rfl, rfl⟩
            go_wp2_with fail
            refine HF.out.mono ?_
            rintro e w2 ⟨rfl, hb2⟩
            go_wp2_with fail
            refine (HL.out _ hb2).mono ?_
            rintro e w3 ⟨rfl, hd3⟩
            have hb3 := hb2.trans (hd3.below.mono hb2.size)
            go_wp2_with fail
            refine (HPL.out _ hb3).mono ?_
            rintro e w4 ⟨rfl, rfl⟩
            by_cases hm : pl = -1
            · subst hm
              go_wp2
              go_roundw
              case rel => exact ⟨k + 1, by omega, by go_num, by rw [ghN_none HPK.out], HSK.out, hB_0.trans (hb3.mono hB_0.size)⟩
              case measure => simp [intOf]; omega
            · have hd : (pl != -1) = true := by simp [hm]
              have HM := Lib.hid hm; clear hm
              go_wp2
              go_roundw
              case rel => exact ⟨k + 1, by omega, by go_num, by rw [ghN_some (by rw [HPK.out]; exact HM.out)]; go_num, HSK.out, hB_0.trans (hb3.mono hB_0.size)⟩
              case measure => simp [intOf]; omega
    · obtain rfl : k = S.length := by omega
      rcases HR.out with ⟨-, j, T, hT, hno⟩ | ⟨rfl, -, hbn, hbl, hs, hbs, hbv, hcv⟩
      · have := HNE.out j T (List.getElem?_eq_some_iff.1 hT).1 hT
        rw [hno] at this; cases this
      · have hm_0 := H.out.below hB_0
        have hbor := border_any wr hm_0 HP0.out hbn
        have hhl : hs.length = ghN S S.length := by rw [← hbl, hbs, List.length_map]
        rw [hbl] at hbor
        have HBO := Lib.hid hbor; have HHL := Lib.hid hhl; have HBS := Lib.hid hbs; have HBV := Lib.hid hbv; have HCV := Lib.hid hcv
        clear hbor hhl hbs hbv hcv hbn hbl hm_0
        have hgn' : ((ghN S S.length : Int) == (ghN S S.length : Int)) = true := by simp
        go_wp2_with fail
        refine HBO.out.mono ?_
        rintro e w2 ⟨g, c, rfl, hbx, -, -, hb2⟩
        have hnat : NatsIn w2 g hs := by
          intro i v hi
          have := hbx.c i (.int .i64 (v : Int)) (by rw [HBS.out]; unfold intCells; rw [List.getElem?_map, List.getElem?_map, hi]; rfl)
          exact this
        have hcx := convex_any g c _ hs w2 ((H.out.below hB_0).below hb2) HPS.out HHL.out (by omega) hnat HBV.out
        rw [HCV.out] at hcx
        have HCX := Lib.hid hcx
        clear hcx hnat hbx
        go_wp2_with fail
        refine HCX.out.mono ?_
        rintro e w3 ⟨rfl, hb3⟩
        go_wp2
        go_ret
        exact ⟨rfl, hB_0.trans ((hb2.trans (hb3.mono hb2.size)).mono hB_0.size)⟩
end Go.Proofs.Ytnabdopnlinklaa
/- mesh's writers: Drop, Link. -/
namespace Go.MagM
open Go.RowKit
theorem modify_set {α : Type} {l : List α} {i : Nat} {x : α} (h : l[i]? = some x) (f : α → α) : l.modify i f = l.set i (f x) := by
  refine List.ext_getElem? fun j => ?_
  rw [List.getElem?_modify, List.getElem?_set]
  by_cases e : i = j
  · subst e
    rw [h, if_pos rfl, if_pos (List.getElem?_eq_some_iff.1 h).1]; simp
  · rw [if_neg e]; simp [e]
/-- Where the cells of a mesh's triangles lie. -/
theorem tri_at {S : List TriM} {t : Nat} {T : TriM} (h : S[t]? = some T) (j : Nat) (hj : j < 9) : (triCells S)[t * 9 + j]? = T.cells[j]? := triCells_get S t j T h hj
theorem tri_n {S : List TriM} {t : Nat} {T : TriM} (h : S[t]? = some T) {i : Nat} (hi : i < 3) : (triCells S)[t * 9 + 3 + i]? = some (.int .i64 (T.n i)) := by
  rw [Nat.add_assoc, tri_at h (3 + i) (by omega)]
  obtain rfl | rfl | rfl : i = 0 ∨ i = 1 ∨ i = 2 := by omega
  all_goals rfl
theorem tri_f {S : List TriM} {t : Nat} {T : TriM} (h : S[t]? = some T) {i : Nat} (hi : i < 3) : (triCells S)[t * 9 + 6 + i]? = some (.bool (T.f i)) := by
  rw [Nat.add_assoc, tri_at h (6 + i) (by omega)]
  obtain rfl | rfl | rfl : i = 0 ∨ i = 1 ∨ i = 2 := by omega
  all_goals rfl
theorem MeshO.slot {p e : TypeId} {w : World} {lo mb pb pc : Nat} {tv : Value} {P : List (Int × Int)} {S : List TriM} (h : MeshO p e w lo mb pb pc tv P S) {t : Nat} {T : TriM} (hT : S[t]? = some T) : ∃ tb c, tv = .slice (some ⟨tb, 0, none⟩) S.length c := by
  obtain ⟨ta, tc, rfl, hr⟩ := h.read
  obtain ⟨b, rfl, -⟩ := hr.tris.get hT
  exact ⟨b, tc, rfl⟩
/-- One half of a link. -/
def half (S : List TriM) (t : Nat) (T : TriM) (i : Nat) (u : Int) (f : Bool) : List TriM := S.set t ((T.setN i u).setF i f)
theorem half_len (S : List TriM) (t : Nat) (T : TriM) (i : Nat) (u : Int) (f : Bool) : (half S t T i u f).length = S.length := by unfold half; simp
theorem linkL_half {S : List TriM} {t u i j : Nat} {T U : TriM} {f : Bool} (hT : S[t]? = some T) (hU : (half S t T i (u : Int) f)[u]? = some U) : linkL S t i u j f = half (half S t T i (u : Int) f) u U j (t : Int) f := by
  unfold linkL
  rw [modify_set hT]
  have : S.set t ((T.setN i (u : Int)).setF i f) = half S t T i (u : Int) f := rfl
  rw [this, modify_set hU]; rfl
/-- What two stores leave. -/
theorem MeshO.half {p e : TypeId} {w : World} {lo mb pb pc g c : Nat} {P : List (Int × Int)} {S : List TriM} (h : MeshO p e w lo mb pb pc (.slice (some ⟨g, 0, none⟩) S.length c) P S) {t i : Nat} (hi : i < 3) {T : TriM} (hT : S[t]? = some T) (u : Int) (f : Bool) :
    MeshO p e ((w.setCell ⟨g, t * 9 + 3 + i, none⟩ (.int .i64 u)).setCell ⟨g, t * 9 + 6 + i, none⟩ (.bool f)) lo mb pb pc (.slice (some ⟨g, 0, none⟩) S.length c) P (half S t T i u f) ∧
    Mut w ((w.setCell ⟨g, t * 9 + 3 + i, none⟩ (.int .i64 u)).setCell ⟨g, t * 9 + 6 + i, none⟩ (.bool f)) mb (.slice (some ⟨g, 0, none⟩) S.length c) (.slice (some ⟨g, 0, none⟩) S.length c) := by
  have hl := (List.getElem?_eq_some_iff.1 hT).1
  have e1 : setL (triCells S) (t * 9 + 3 + i) [.int .i64 u] = triCells (S.set t (T.setN i u)) := by
    show (triCells S).set (t * 9 + 3 + i) _ = _
    rw [Nat.add_assoc]; exact triCells_setN hT i hi u
  obtain ⟨h1, m1⟩ := h.setT (S' := S.set t (T.setN i u)) (t * 9 + 3 + i) [.int .i64 u] (by simp) e1
  have hT2 : (S.set t (T.setN i u))[t]? = some (T.setN i u) := by rw [List.getElem?_set, if_pos rfl, if_pos hl]
  have e2 : setL (triCells (S.set t (T.setN i u))) (t * 9 + 6 + i) [.bool f] = triCells (S.set t ((T.setN i u).setF i f)) := by
    show (triCells (S.set t (T.setN i u))).set (t * 9 + 6 + i) _ = _
    rw [Nat.add_assoc, triCells_setF hT2 i hi f, List.set_set]
  have hlen : (S.set t (T.setN i u)).length = S.length := by simp
  have h1' : MeshO p e (setAll w g (t * 9 + 3 + i) [.int .i64 u]) lo mb pb pc (.slice (some ⟨g, 0, none⟩) (S.set t (T.setN i u)).length c) P (S.set t (T.setN i u)) := by rw [hlen]; exact h1
  obtain ⟨h2, m2⟩ := h1'.setT (S' := S.set t ((T.setN i u).setF i f)) (t * 9 + 6 + i) [.bool f] (by simp) e2
  rw [hlen] at h2 m2
  exact ⟨h2, m1.trans m2⟩
def goneTri : TriM := ⟨-2, -2, -2, -1, -1, -1, false, false, false⟩
end Go.MagM
namespace Go.Proofs.Ytnabdopnlinklaa
open Go.RowKit Go.MagM
set_option maxRecDepth 100000 in
set_option maxHeartbeats 16000000 in
theorem Link_any {lo mb pb pc : Nat} {tv : Value} {P : List (Int × Int)} {S : List TriM} (t i u j : Nat) (f : Bool) (T U : TriM) (w : World) (h : MeshO 26 37 w lo mb pb pc tv P S) (hT : S[t]? = some T) (hgT : goneB T = false) (hi : i < 3) (hU : S[u]? = some U) (hgU : goneB U = false) (hj : j < 3) :
    Calls Try.prog 24 #[.pointer (some ⟨mb, 0, none⟩), .int .i64 (t : Int), .int .i64 (i : Int), .int .i64 (u : Int), .int .i64 (j : Int), .bool f] w fun e w' => e = .returned (.tuple #[]) ∧ MeshO 26 37 w' lo mb pb pc tv P (linkL S t i u j f) ∧ Mut w w' mb tv tv := by
  obtain ⟨ta, tc, htv, hr⟩ := h.read
  have k1 := hasEdge_any (t : Int) (i : Int) w hr
  have k2 := hasEdge_any (u : Int) (j : Int) w hr
  have g1 : hasB S (t : Int) (i : Int) = true := by unfold hasB thereB; rw [getT_nat, hT]; simp [hgT]; omega
  have g2 : hasB S (u : Int) (j : Int) = true := by unfold hasB thereB; rw [getT_nat, hU]; simp [hgU]; omega
  rw [g1] at k1; rw [g2] at k2
  obtain ⟨tb, c, rfl⟩ := h.slot hT
  clear htv hr g1 g2
  obtain ⟨U', hU'⟩ : ∃ U', (half S t T i (u : Int) f)[u]? = some U' := ⟨_, List.getElem?_eq_getElem (by rw [half_len]; exact (List.getElem?_eq_some_iff.1 hU).1)⟩
  have hlk := linkL_half (j := j) hT hU'
  have ltT := (List.getElem?_eq_some_iff.1 hT).1
  have ltU := (List.getElem?_eq_some_iff.1 hU).1
  have hsh := h.short.2
  obtain ⟨len, hlen⟩ : ∃ len, S.length = len := ⟨_, rfl⟩
  have hd := h.drew
  have nT := tri_n hT hi; have fT := tri_f hT hi
  have hbq := owns_box hd.row
  have a1 := hbq.c _ _ nT; have a2 := hbq.f _ _ nT
  have hbq2 := hbq.set (t * 9 + 3 + i) (.int .i64 (u : Int))
  have fT2 : ((triCells S).set (t * 9 + 3 + i) (.int .i64 (u : Int)))[t * 9 + 6 + i]? = some (.bool (T.f i)) := by rw [List.getElem?_set_ne (by omega)]; exact fT
  have a3 := hbq2.c _ _ fT2; have a4 := hbq2.f _ _ fT2
  obtain ⟨ho2, hm2⟩ := hd.half hi hT (u : Int) f
  have hd2 := ho2.drew
  have nU := tri_n hU' hj; have fU := tri_f hU' hj
  have hd2' := hd2
  rw [← half_len S t T i (u : Int) f] at hd2'
  have hbr := owns_box hd2'.row
  have b1 := hbr.c _ _ nU; have b2 := hbr.f _ _ nU
  have hbr2 := hbr.set (u * 9 + 3 + j) (.int .i64 (t : Int))
  have fU2 : ((triCells (half S t T i (u : Int) f)).set (u * 9 + 3 + j) (.int .i64 (t : Int)))[u * 9 + 6 + j]? = some (.bool (U'.f j)) := by rw [List.getElem?_set_ne (by omega)]; exact fU
  have b3 := hbr2.c _ _ fU2; have b4 := hbr2.f _ _ fU2
  obtain ⟨ho3, hm3⟩ := hd2'.half hj hU' (t : Int) f
  have ct := hd.box.c1
  have ct2 := hd2.box.c1
  rw [half_len] at ho3 hm3
  rw [← hlk] at ho3
  have hmA : Mut w w.drew mb (.slice (some ⟨tb, 0, none⟩) S.length c) (.slice (some ⟨tb, 0, none⟩) S.length c) := ⟨rfl, rfl, rfl, Nat.le_refl _, fun _ _ _ h => ⟨rfl, h⟩⟩
  have hmB : ∀ w : World, Mut w w.drew mb (.slice (some ⟨tb, 0, none⟩) S.length c) (.slice (some ⟨tb, 0, none⟩) S.length c) := fun _ => ⟨rfl, rfl, rfl, Nat.le_refl _, fun _ _ _ h => ⟨rfl, h⟩⟩
  have hmall := (hmA.trans hm2).trans ((hmB _).trans hm3)
  rw [hlen] at ct ct2 ltT ltU hsh
  have K1 := Lib.hid k1; have K2 := Lib.hid k2; have HO3 := Lib.hid ho3; have HM := Lib.hid hmall
  have hb1 : (0 : Int) ≤ (t : Int) := by omega
  have hb2 : (t : Int) < (len : Int) := by omega
  have hb3 : (0 : Int) ≤ (u : Int) := by omega
  have hb4 : (u : Int) < (len : Int) := by omega
  have hb5 : (0 : Int) ≤ (i : Int) := by omega
  have hb6 : (i : Int) < 3 := by omega
  have hb7 : (0 : Int) ≤ (j : Int) := by omega
  have hb8 : (j : Int) < 3 := by omega
  have HLEN := Lib.hid hlen
  clear k1 k2 hd nT fT hbq hbq2 fT2 ho2 hm2 hd2 nU fU hbr hbr2 fU2 hd2' ho3 hm3 hmA hmB hmall hT hU hU' hlk h hgT hgU hlen
  go_enter Try.func24, Try.ntmps24
  go_wp2_with fail
  refine K1.out.mono ?_
  rintro e w' ⟨rfl, rfl⟩
  go_wp2_with fail
  refine K2.out.mono ?_
  rintro e w' ⟨rfl, rfl⟩
  go_wp2
  obtain ⟨SSq, hSSq⟩ : ∃ S : Array Bool → World → Prop, ∀ l w', S l w' ↔ ((l.getD 17 true = false → w'.cell? ⟨mb, 1, none⟩ = some (.slice (some ⟨tb, 0, none⟩) len c))) := ⟨_, fun _ _ => Iff.rfl⟩
  refine wp_region_noPanic ?_
  refine wp_region_G SSq 22 #[false, false, false, false, false, false, false, false, false, false, false, false, false, false, false, false, false, false, false, false, false, false] (by kernel_rfl) (by kernel_rfl) (by kernel_rfl) ((hSSq _ _).2 (fun _ => ct)) (fun hCl hHeld => ?_)
  generalize w.drew = w2 at *
  refine reg_takeG 0 ?_ ?_ ?_ (by kernel_rfl) (by kernel_rfl) (by kernel_rfl) (fun _ _ _ h => h) ?_ ?_ ?_ hCl hHeld ?_
  rotate_left 2
  · simp only [List.getElem?_toArray, List.getElem?_cons_zero]; exact rfl
  · intro l w'; rw [hSSq, hSSq]; rw [getD_set_ne (i := 0) (j := 17) true (by decide)]
  · rfl
  · intro w' hA; clear hA; go_simp; try with_reducible rfl
  clear hCl hHeld
  intro hCl hHeld
  simp only [List.setIfInBounds_toArray, List.set_cons_zero] at hCl hHeld
  try simp only [Act.put]
  try simp only [List.setIfInBounds_toArray, List.set_cons_zero, List.set_cons_succ]
  refine reg_takeG 1 ?_ ?_ ?_ (by kernel_rfl) (by kernel_rfl) (by kernel_rfl) (fun _ _ _ h => h) ?_ ?_ ?_ hCl hHeld ?_
  rotate_left 2
  · simp only [List.getElem?_toArray, List.getElem?_cons_succ, List.getElem?_cons_zero]; exact rfl
  · intro l w'; rw [hSSq, hSSq]; rw [getD_set_ne (i := 1) (j := 17) true (by decide)]
  · rfl
  · intro w' hA; clear hA; go_simp; try with_reducible rfl
  clear hCl hHeld
  intro hCl hHeld
  simp only [List.setIfInBounds_toArray, List.set_cons_zero, List.set_cons_succ] at hCl hHeld
  try simp only [Act.put]
  try simp only [List.setIfInBounds_toArray, List.set_cons_zero, List.set_cons_succ]
  refine reg_takeG 2 ?_ ?_ ?_ (by kernel_rfl) (by kernel_rfl) (by kernel_rfl) (fun _ _ _ h => h) ?_ ?_ ?_ hCl hHeld ?_
  rotate_left 2
  · simp only [List.getElem?_toArray, List.getElem?_cons_succ, List.getElem?_cons_zero]; exact rfl
  · intro l w'; rw [hSSq, hSSq]; rw [getD_set_ne (i := 2) (j := 17) true (by decide)]
  · rfl
  · intro w' hA; clear hA; go_simp; try with_reducible rfl
  clear hCl hHeld
  intro hCl hHeld
  simp only [List.setIfInBounds_toArray, List.set_cons_zero, List.set_cons_succ] at hCl hHeld
  try simp only [Act.put]
  try simp only [List.setIfInBounds_toArray, List.set_cons_zero, List.set_cons_succ]
  refine reg_takeG 3 ?_ ?_ ?_ (by kernel_rfl) (by kernel_rfl) (by kernel_rfl) (fun _ _ _ h => h) ?_ ?_ ?_ hCl hHeld ?_
  rotate_left 2
  · simp only [List.getElem?_toArray, List.getElem?_cons_succ, List.getElem?_cons_zero]; exact rfl
  · intro l w'; rw [hSSq, hSSq]; rw [getD_set_ne (i := 3) (j := 17) true (by decide)]
  · rfl
  · intro w' hA; obtain ⟨l, hl, hi, hSl⟩ := hA; have hSl := (hSSq _ _).1 hSl; have hy0 := hSl; have hz0 := hy0 (hl.not (t := 17) (by kernel_rfl) hi); go_simp; try with_reducible rfl
  clear hCl hHeld
  intro hCl hHeld
  simp only [List.setIfInBounds_toArray, List.set_cons_zero, List.set_cons_succ] at hCl hHeld
  try simp only [Act.put]
  try simp only [List.setIfInBounds_toArray, List.set_cons_zero, List.set_cons_succ]
  refine reg_takeG 4 ?_ ?_ ?_ (by kernel_rfl) (by kernel_rfl) (by kernel_rfl) (fun _ _ _ h => h) ?_ ?_ ?_ hCl hHeld ?_
  rotate_left 2
  · simp only [List.getElem?_toArray, List.getElem?_cons_succ, List.getElem?_cons_zero]; exact rfl
  · intro l w'; rw [hSSq, hSSq]; rw [getD_set_ne (i := 4) (j := 17) true (by decide)]
  · rfl
  · intro w' hA; clear hA; go_simp; try with_reducible rfl
  clear hCl hHeld
  intro hCl hHeld
  simp only [List.setIfInBounds_toArray, List.set_cons_zero, List.set_cons_succ] at hCl hHeld
  try simp only [Act.put]
  try simp only [List.setIfInBounds_toArray, List.set_cons_zero, List.set_cons_succ]
  refine reg_takeG 5 ?_ ?_ ?_ (by kernel_rfl) (by kernel_rfl) (by kernel_rfl) (fun _ _ _ h => h) ?_ ?_ ?_ hCl hHeld ?_
  rotate_left 2
  · simp only [List.getElem?_toArray, List.getElem?_cons_succ, List.getElem?_cons_zero]; exact rfl
  · intro l w'; rw [hSSq, hSSq]; rw [getD_set_ne (i := 5) (j := 17) true (by decide)]
  · rfl
  · intro w' hA; clear hA; go_simp; try with_reducible rfl
  clear hCl hHeld
  intro hCl hHeld
  simp only [List.setIfInBounds_toArray, List.set_cons_zero, List.set_cons_succ] at hCl hHeld
  try simp only [Act.put]
  try simp only [List.setIfInBounds_toArray, List.set_cons_zero, List.set_cons_succ]
  refine reg_takeG 6 ?_ ?_ ?_ (by kernel_rfl) (by kernel_rfl) (by kernel_rfl) (fun _ _ _ h => h) ?_ ?_ ?_ hCl hHeld ?_
  rotate_left 2
  · simp only [List.getElem?_toArray, List.getElem?_cons_succ, List.getElem?_cons_zero]; exact rfl
  · intro l w'; rw [hSSq, hSSq]; rw [getD_set_ne (i := 6) (j := 17) true (by decide)]
  · rfl
  · intro w' hA; clear hA; go_simp; try with_reducible rfl
  clear hCl hHeld
  intro hCl hHeld
  simp only [List.setIfInBounds_toArray, List.set_cons_zero, List.set_cons_succ] at hCl hHeld
  try simp only [Act.put]
  try simp only [List.setIfInBounds_toArray, List.set_cons_zero, List.set_cons_succ]
  refine reg_takeG 7 ?_ ?_ ?_ (by kernel_rfl) (by kernel_rfl) (by kernel_rfl) (fun _ _ _ h => h) ?_ ?_ ?_ hCl hHeld ?_
  rotate_left 2
  · simp only [List.getElem?_toArray, List.getElem?_cons_succ, List.getElem?_cons_zero]; exact rfl
  · intro l w'; rw [hSSq, hSSq]; rw [getD_set_ne (i := 7) (j := 17) true (by decide)]
  · rfl
  · intro w' hA; clear hA; go_simp; try with_reducible rfl
  clear hCl hHeld
  intro hCl hHeld
  simp only [List.setIfInBounds_toArray, List.set_cons_zero, List.set_cons_succ] at hCl hHeld
  try simp only [Act.put]
  try simp only [List.setIfInBounds_toArray, List.set_cons_zero, List.set_cons_succ]
  refine reg_takeG 8 ?_ ?_ ?_ (by kernel_rfl) (by kernel_rfl) (by kernel_rfl) (fun _ _ _ h => h) ?_ ?_ ?_ hCl hHeld ?_
  rotate_left 2
  · simp only [List.getElem?_toArray, List.getElem?_cons_succ, List.getElem?_cons_zero]; exact rfl
  · intro l w'; rw [hSSq, hSSq]; rw [getD_set_ne (i := 8) (j := 17) true (by decide)]
  · rfl
  · intro w' hA; clear hA; go_simp; try with_reducible rfl
  clear hCl hHeld
  intro hCl hHeld
  simp only [List.setIfInBounds_toArray, List.set_cons_zero, List.set_cons_succ] at hCl hHeld
  try simp only [Act.put]
  try simp only [List.setIfInBounds_toArray, List.set_cons_zero, List.set_cons_succ]
  refine reg_takeG 9 ?_ ?_ ?_ (by kernel_rfl) (by kernel_rfl) (by kernel_rfl) (fun _ _ _ h => h) ?_ ?_ ?_ hCl hHeld ?_
  rotate_left 2
  · simp only [List.getElem?_toArray, List.getElem?_cons_succ, List.getElem?_cons_zero]; exact rfl
  · intro l w'; rw [hSSq, hSSq]; rw [getD_set_ne (i := 9) (j := 17) true (by decide)]
  · rfl
  · intro w' hA; obtain ⟨l, hl, hi, hSl⟩ := hA; have hSl := (hSSq _ _).1 hSl; have hy0 := hSl; have hz0 := hy0 (hl.not (t := 17) (by kernel_rfl) hi); go_simp; try with_reducible rfl
  clear hCl hHeld
  intro hCl hHeld
  simp only [List.setIfInBounds_toArray, List.set_cons_zero, List.set_cons_succ] at hCl hHeld
  try simp only [Act.put]
  try simp only [List.setIfInBounds_toArray, List.set_cons_zero, List.set_cons_succ]
  refine reg_takeG 10 ?_ ?_ ?_ (by kernel_rfl) (by kernel_rfl) (by kernel_rfl) (fun _ _ _ h => h) ?_ ?_ ?_ hCl hHeld ?_
  rotate_left 2
  · simp only [List.getElem?_toArray, List.getElem?_cons_succ, List.getElem?_cons_zero]; exact rfl
  · intro l w'; rw [hSSq, hSSq]; rw [getD_set_ne (i := 10) (j := 17) true (by decide)]
  · rfl
  · intro w' hA; clear hA; go_simp; try with_reducible rfl
  clear hCl hHeld
  intro hCl hHeld
  simp only [List.setIfInBounds_toArray, List.set_cons_zero, List.set_cons_succ] at hCl hHeld
  try simp only [Act.put]
  try simp only [List.setIfInBounds_toArray, List.set_cons_zero, List.set_cons_succ]
  refine reg_takeG 11 ?_ ?_ ?_ (by kernel_rfl) (by kernel_rfl) (by kernel_rfl) (fun _ _ _ h => h) ?_ ?_ ?_ hCl hHeld ?_
  rotate_left 2
  · simp only [List.getElem?_toArray, List.getElem?_cons_succ, List.getElem?_cons_zero]; exact rfl
  · intro l w'; rw [hSSq, hSSq]; rw [getD_set_ne (i := 11) (j := 17) true (by decide)]
  · rfl
  · intro w' hA; clear hA; go_simp; try with_reducible rfl
  clear hCl hHeld
  intro hCl hHeld
  simp only [List.setIfInBounds_toArray, List.set_cons_zero, List.set_cons_succ] at hCl hHeld
  try simp only [Act.put]
  try simp only [List.setIfInBounds_toArray, List.set_cons_zero, List.set_cons_succ]
  refine reg_takeG 12 ?_ ?_ ?_ (by kernel_rfl) (by kernel_rfl) (by kernel_rfl) (fun _ _ _ h => h) ?_ ?_ ?_ hCl hHeld ?_
  rotate_left 2
  · simp only [List.getElem?_toArray, List.getElem?_cons_succ, List.getElem?_cons_zero]; exact rfl
  · intro l w'; rw [hSSq, hSSq]; rw [getD_set_ne (i := 12) (j := 17) true (by decide)]
  · rfl
  · intro w' hA; clear hA; go_simp; try with_reducible rfl
  clear hCl hHeld
  intro hCl hHeld
  simp only [List.setIfInBounds_toArray, List.set_cons_zero, List.set_cons_succ] at hCl hHeld
  try simp only [Act.put]
  try simp only [List.setIfInBounds_toArray, List.set_cons_zero, List.set_cons_succ]
  refine reg_takeG 13 ?_ ?_ ?_ (by kernel_rfl) (by kernel_rfl) (by kernel_rfl) (fun _ _ _ h => h) ?_ ?_ ?_ hCl hHeld ?_
  rotate_left 2
  · simp only [List.getElem?_toArray, List.getElem?_cons_succ, List.getElem?_cons_zero]; exact rfl
  · intro l w'; rw [hSSq, hSSq]; rw [getD_set_ne (i := 13) (j := 17) true (by decide)]
  · rfl
  · intro w' hA; clear hA; go_simp; try with_reducible rfl
  clear hCl hHeld
  intro hCl hHeld
  simp only [List.setIfInBounds_toArray, List.set_cons_zero, List.set_cons_succ] at hCl hHeld
  try simp only [Act.put]
  try simp only [List.setIfInBounds_toArray, List.set_cons_zero, List.set_cons_succ]
  refine reg_takeG 14 ?_ ?_ ?_ (by kernel_rfl) (by kernel_rfl) (by kernel_rfl) (fun _ _ _ h => h) ?_ ?_ ?_ hCl hHeld ?_
  rotate_left 2
  · simp only [List.getElem?_toArray, List.getElem?_cons_succ, List.getElem?_cons_zero]; exact rfl
  · intro l w'; rw [hSSq, hSSq]; rw [getD_set_ne (i := 14) (j := 17) true (by decide)]
  · rfl
  · intro w' hA; clear hA; go_simp; try with_reducible rfl
  clear hCl hHeld
  intro hCl hHeld
  simp only [List.setIfInBounds_toArray, List.set_cons_zero, List.set_cons_succ] at hCl hHeld
  try simp only [Act.put]
  try simp only [List.setIfInBounds_toArray, List.set_cons_zero, List.set_cons_succ]
  refine reg_takeG 15 ?_ ?_ ?_ (by kernel_rfl) (by kernel_rfl) (by kernel_rfl) (fun _ _ _ h => h) ?_ ?_ ?_ hCl hHeld ?_
  rotate_left 2
  · simp only [List.getElem?_toArray, List.getElem?_cons_succ, List.getElem?_cons_zero]; exact rfl
  · intro l w'; rw [hSSq, hSSq]; rw [getD_set_ne (i := 15) (j := 17) true (by decide)]
  · rfl
  · intro w' hA; clear hA; go_simp; try with_reducible rfl
  clear hCl hHeld
  intro hCl hHeld
  simp only [List.setIfInBounds_toArray, List.set_cons_zero, List.set_cons_succ] at hCl hHeld
  try simp only [Act.put]
  try simp only [List.setIfInBounds_toArray, List.set_cons_zero, List.set_cons_succ]
  refine reg_takeG 16 ?_ ?_ ?_ (by kernel_rfl) (by kernel_rfl) (by kernel_rfl) (fun _ _ _ h => h) ?_ ?_ ?_ hCl hHeld ?_
  rotate_left 2
  · simp only [List.getElem?_toArray, List.getElem?_cons_succ, List.getElem?_cons_zero]; exact rfl
  · intro l w'; rw [hSSq, hSSq]; rw [getD_set_ne (i := 16) (j := 17) true (by decide)]
  · rfl
  · intro w' hA; clear hA; go_simp; try with_reducible rfl
  clear hCl hHeld
  intro hCl hHeld
  simp only [List.setIfInBounds_toArray, List.set_cons_zero, List.set_cons_succ] at hCl hHeld
  try simp only [Act.put]
  try simp only [List.setIfInBounds_toArray, List.set_cons_zero, List.set_cons_succ]
  refine reg_takeG 18 ?_ ?_ ?_ (by kernel_rfl) (by kernel_rfl) (by kernel_rfl) (fun _ _ _ h => h) ?_ ?_ ?_ hCl hHeld ?_
  rotate_left 2
  · simp only [List.getElem?_toArray, List.getElem?_cons_succ, List.getElem?_cons_zero]; exact rfl
  · intro l w'; rw [hSSq, hSSq]; rw [getD_set_ne (i := 18) (j := 17) true (by decide)]
  · rfl
  · intro w' hA; clear hA; go_simp; try with_reducible rfl
  clear hCl hHeld
  intro hCl hHeld
  simp only [List.setIfInBounds_toArray, List.set_cons_zero, List.set_cons_succ] at hCl hHeld
  try simp only [Act.put]
  try simp only [List.setIfInBounds_toArray, List.set_cons_zero, List.set_cons_succ]
  refine reg_takeG 19 ?_ ?_ ?_ (by kernel_rfl) (by kernel_rfl) (by kernel_rfl) (fun _ _ _ h => h) ?_ ?_ ?_ hCl hHeld ?_
  rotate_left 2
  · simp only [List.getElem?_toArray, List.getElem?_cons_succ, List.getElem?_cons_zero]; exact rfl
  · intro l w'; rw [hSSq, hSSq]; rw [getD_set_ne (i := 19) (j := 17) true (by decide)]
  · rfl
  · intro w' hA; clear hA; go_simp; try with_reducible rfl
  clear hCl hHeld
  intro hCl hHeld
  simp only [List.setIfInBounds_toArray, List.set_cons_zero, List.set_cons_succ] at hCl hHeld
  try simp only [Act.put]
  try simp only [List.setIfInBounds_toArray, List.set_cons_zero, List.set_cons_succ]
  clear hCl hHeld
  refine reg_callG 17 ?_ (by kernel_rfl) ?_ (fun K hK => ?_)
  rotate_left 1
  · simp only [List.getElem?_toArray, List.getElem?_cons_succ, List.getElem?_cons_zero]; exact rfl
  go_simp
  refine hK.out _ _ ((hSSq _ _).2 (fun h => absurd h (by decide))) ?_
  clear hK K
  try simp only [Act.put]
  try simp only [List.setIfInBounds_toArray, List.set_cons_zero, List.set_cons_succ]
  refine reg_callG 20 ?_ (by kernel_rfl) ?_ (fun K hK => ?_)
  rotate_left 1
  · simp only [List.getElem?_toArray, List.getElem?_cons_succ, List.getElem?_cons_zero]; exact rfl
  go_simp
  refine hK.out _ _ ((hSSq _ _).2 (fun h => absurd h (by decide))) ?_
  clear hK K
  try simp only [Act.put]
  try simp only [List.setIfInBounds_toArray, List.set_cons_zero, List.set_cons_succ]
  refine reg_callG 21 ?_ (by kernel_rfl) ?_ (fun K hK => ?_)
  rotate_left 1
  · simp only [List.getElem?_toArray, List.getElem?_cons_succ, List.getElem?_cons_zero]; exact rfl
  go_simp
  refine hK.out _ _ ((hSSq _ _).2 (fun h => absurd h (by decide))) ?_
  clear hK K
  try simp only [Act.put]
  try simp only [List.setIfInBounds_toArray, List.set_cons_zero, List.set_cons_succ]
  refine wpAnyG_done (by kernel_rfl) ?_ _
  refine NoPanic.normal ?_
  clear hSSq SSq
  clear a1 a2 a3 a4 ct
  go_wp2
  obtain ⟨SSr, hSSr⟩ : ∃ S : Array Bool → World → Prop, ∀ l w', S l w' ↔ ((l.getD 17 true = false → w'.cell? ⟨mb, 1, none⟩ = some (.slice (some ⟨tb, 0, none⟩) len c))) := ⟨_, fun _ _ => Iff.rfl⟩
  refine wp_region_noPanic ?_
  refine wp_region_G SSr 22 #[false, false, false, false, false, false, false, false, false, false, false, false, false, false, false, false, false, false, false, false, false, false] (by kernel_rfl) (by kernel_rfl) (by kernel_rfl) ((hSSr _ _).2 (fun _ => ct2)) (fun hCl hHeld => ?_)
  generalize ((w2.setCell ⟨tb, t * 9 + 3 + i, none⟩ (.int .i64 (u : Int))).setCell ⟨tb, t * 9 + 6 + i, none⟩ (.bool f)).drew = w5 at *
  refine reg_takeG 0 ?_ ?_ ?_ (by kernel_rfl) (by kernel_rfl) (by kernel_rfl) (fun _ _ _ h => h) ?_ ?_ ?_ hCl hHeld ?_
  rotate_left 2
  · simp only [List.getElem?_toArray, List.getElem?_cons_zero]; exact rfl
  · intro l w'; rw [hSSr, hSSr]; rw [getD_set_ne (i := 0) (j := 17) true (by decide)]
  · rfl
  · intro w' hA; clear hA; go_simp; try with_reducible rfl
  clear hCl hHeld
  intro hCl hHeld
  simp only [List.setIfInBounds_toArray, List.set_cons_zero] at hCl hHeld
  try simp only [Act.put]
  try simp only [List.setIfInBounds_toArray, List.set_cons_zero, List.set_cons_succ]
  refine reg_takeG 1 ?_ ?_ ?_ (by kernel_rfl) (by kernel_rfl) (by kernel_rfl) (fun _ _ _ h => h) ?_ ?_ ?_ hCl hHeld ?_
  rotate_left 2
  · simp only [List.getElem?_toArray, List.getElem?_cons_succ, List.getElem?_cons_zero]; exact rfl
  · intro l w'; rw [hSSr, hSSr]; rw [getD_set_ne (i := 1) (j := 17) true (by decide)]
  · rfl
  · intro w' hA; clear hA; go_simp; try with_reducible rfl
  clear hCl hHeld
  intro hCl hHeld
  simp only [List.setIfInBounds_toArray, List.set_cons_zero, List.set_cons_succ] at hCl hHeld
  try simp only [Act.put]
  try simp only [List.setIfInBounds_toArray, List.set_cons_zero, List.set_cons_succ]
  refine reg_takeG 2 ?_ ?_ ?_ (by kernel_rfl) (by kernel_rfl) (by kernel_rfl) (fun _ _ _ h => h) ?_ ?_ ?_ hCl hHeld ?_
  rotate_left 2
  · simp only [List.getElem?_toArray, List.getElem?_cons_succ, List.getElem?_cons_zero]; exact rfl
  · intro l w'; rw [hSSr, hSSr]; rw [getD_set_ne (i := 2) (j := 17) true (by decide)]
  · rfl
  · intro w' hA; clear hA; go_simp; try with_reducible rfl
  clear hCl hHeld
  intro hCl hHeld
  simp only [List.setIfInBounds_toArray, List.set_cons_zero, List.set_cons_succ] at hCl hHeld
  try simp only [Act.put]
  try simp only [List.setIfInBounds_toArray, List.set_cons_zero, List.set_cons_succ]
  refine reg_takeG 3 ?_ ?_ ?_ (by kernel_rfl) (by kernel_rfl) (by kernel_rfl) (fun _ _ _ h => h) ?_ ?_ ?_ hCl hHeld ?_
  rotate_left 2
  · simp only [List.getElem?_toArray, List.getElem?_cons_succ, List.getElem?_cons_zero]; exact rfl
  · intro l w'; rw [hSSr, hSSr]; rw [getD_set_ne (i := 3) (j := 17) true (by decide)]
  · rfl
  · intro w' hA; obtain ⟨l, hl, hi, hSl⟩ := hA; have hSl := (hSSr _ _).1 hSl; have hy0 := hSl; have hz0 := hy0 (hl.not (t := 17) (by kernel_rfl) hi); go_simp; try with_reducible rfl
  clear hCl hHeld
  intro hCl hHeld
  simp only [List.setIfInBounds_toArray, List.set_cons_zero, List.set_cons_succ] at hCl hHeld
  try simp only [Act.put]
  try simp only [List.setIfInBounds_toArray, List.set_cons_zero, List.set_cons_succ]
  refine reg_takeG 4 ?_ ?_ ?_ (by kernel_rfl) (by kernel_rfl) (by kernel_rfl) (fun _ _ _ h => h) ?_ ?_ ?_ hCl hHeld ?_
  rotate_left 2
  · simp only [List.getElem?_toArray, List.getElem?_cons_succ, List.getElem?_cons_zero]; exact rfl
  · intro l w'; rw [hSSr, hSSr]; rw [getD_set_ne (i := 4) (j := 17) true (by decide)]
  · rfl
  · intro w' hA; clear hA; go_simp; try with_reducible rfl
  clear hCl hHeld
  intro hCl hHeld
  simp only [List.setIfInBounds_toArray, List.set_cons_zero, List.set_cons_succ] at hCl hHeld
  try simp only [Act.put]
  try simp only [List.setIfInBounds_toArray, List.set_cons_zero, List.set_cons_succ]
  refine reg_takeG 5 ?_ ?_ ?_ (by kernel_rfl) (by kernel_rfl) (by kernel_rfl) (fun _ _ _ h => h) ?_ ?_ ?_ hCl hHeld ?_
  rotate_left 2
  · simp only [List.getElem?_toArray, List.getElem?_cons_succ, List.getElem?_cons_zero]; exact rfl
  · intro l w'; rw [hSSr, hSSr]; rw [getD_set_ne (i := 5) (j := 17) true (by decide)]
  · rfl
  · intro w' hA; clear hA; go_simp; try with_reducible rfl
  clear hCl hHeld
  intro hCl hHeld
  simp only [List.setIfInBounds_toArray, List.set_cons_zero, List.set_cons_succ] at hCl hHeld
  try simp only [Act.put]
  try simp only [List.setIfInBounds_toArray, List.set_cons_zero, List.set_cons_succ]
  refine reg_takeG 6 ?_ ?_ ?_ (by kernel_rfl) (by kernel_rfl) (by kernel_rfl) (fun _ _ _ h => h) ?_ ?_ ?_ hCl hHeld ?_
  rotate_left 2
  · simp only [List.getElem?_toArray, List.getElem?_cons_succ, List.getElem?_cons_zero]; exact rfl
  · intro l w'; rw [hSSr, hSSr]; rw [getD_set_ne (i := 6) (j := 17) true (by decide)]
  · rfl
  · intro w' hA; clear hA; go_simp; try with_reducible rfl
  clear hCl hHeld
  intro hCl hHeld
  simp only [List.setIfInBounds_toArray, List.set_cons_zero, List.set_cons_succ] at hCl hHeld
  try simp only [Act.put]
  try simp only [List.setIfInBounds_toArray, List.set_cons_zero, List.set_cons_succ]
  refine reg_takeG 7 ?_ ?_ ?_ (by kernel_rfl) (by kernel_rfl) (by kernel_rfl) (fun _ _ _ h => h) ?_ ?_ ?_ hCl hHeld ?_
  rotate_left 2
  · simp only [List.getElem?_toArray, List.getElem?_cons_succ, List.getElem?_cons_zero]; exact rfl
  · intro l w'; rw [hSSr, hSSr]; rw [getD_set_ne (i := 7) (j := 17) true (by decide)]
  · rfl
  · intro w' hA; clear hA; go_simp; try with_reducible rfl
  clear hCl hHeld
  intro hCl hHeld
  simp only [List.setIfInBounds_toArray, List.set_cons_zero, List.set_cons_succ] at hCl hHeld
  try simp only [Act.put]
  try simp only [List.setIfInBounds_toArray, List.set_cons_zero, List.set_cons_succ]
  refine reg_takeG 8 ?_ ?_ ?_ (by kernel_rfl) (by kernel_rfl) (by kernel_rfl) (fun _ _ _ h => h) ?_ ?_ ?_ hCl hHeld ?_
  rotate_left 2
  · simp only [List.getElem?_toArray, List.getElem?_cons_succ, List.getElem?_cons_zero]; exact rfl
  · intro l w'; rw [hSSr, hSSr]; rw [getD_set_ne (i := 8) (j := 17) true (by decide)]
  · rfl
  · intro w' hA; clear hA; go_simp; try with_reducible rfl
  clear hCl hHeld
  intro hCl hHeld
  simp only [List.setIfInBounds_toArray, List.set_cons_zero, List.set_cons_succ] at hCl hHeld
  try simp only [Act.put]
  try simp only [List.setIfInBounds_toArray, List.set_cons_zero, List.set_cons_succ]
  refine reg_takeG 9 ?_ ?_ ?_ (by kernel_rfl) (by kernel_rfl) (by kernel_rfl) (fun _ _ _ h => h) ?_ ?_ ?_ hCl hHeld ?_
  rotate_left 2
  · simp only [List.getElem?_toArray, List.getElem?_cons_succ, List.getElem?_cons_zero]; exact rfl
  · intro l w'; rw [hSSr, hSSr]; rw [getD_set_ne (i := 9) (j := 17) true (by decide)]
  · rfl
  · intro w' hA; obtain ⟨l, hl, hi, hSl⟩ := hA; have hSl := (hSSr _ _).1 hSl; have hy0 := hSl; have hz0 := hy0 (hl.not (t := 17) (by kernel_rfl) hi); go_simp; try with_reducible rfl
  clear hCl hHeld
  intro hCl hHeld
  simp only [List.setIfInBounds_toArray, List.set_cons_zero, List.set_cons_succ] at hCl hHeld
  try simp only [Act.put]
  try simp only [List.setIfInBounds_toArray, List.set_cons_zero, List.set_cons_succ]
  refine reg_takeG 10 ?_ ?_ ?_ (by kernel_rfl) (by kernel_rfl) (by kernel_rfl) (fun _ _ _ h => h) ?_ ?_ ?_ hCl hHeld ?_
  rotate_left 2
  · simp only [List.getElem?_toArray, List.getElem?_cons_succ, List.getElem?_cons_zero]; exact rfl
  · intro l w'; rw [hSSr, hSSr]; rw [getD_set_ne (i := 10) (j := 17) true (by decide)]
  · rfl
  · intro w' hA; clear hA; go_simp; try with_reducible rfl
  clear hCl hHeld
  intro hCl hHeld
  simp only [List.setIfInBounds_toArray, List.set_cons_zero, List.set_cons_succ] at hCl hHeld
  try simp only [Act.put]
  try simp only [List.setIfInBounds_toArray, List.set_cons_zero, List.set_cons_succ]
  refine reg_takeG 11 ?_ ?_ ?_ (by kernel_rfl) (by kernel_rfl) (by kernel_rfl) (fun _ _ _ h => h) ?_ ?_ ?_ hCl hHeld ?_
  rotate_left 2
  · simp only [List.getElem?_toArray, List.getElem?_cons_succ, List.getElem?_cons_zero]; exact rfl
  · intro l w'; rw [hSSr, hSSr]; rw [getD_set_ne (i := 11) (j := 17) true (by decide)]
  · rfl
  · intro w' hA; clear hA; go_simp; try with_reducible rfl
  clear hCl hHeld
  intro hCl hHeld
  simp only [List.setIfInBounds_toArray, List.set_cons_zero, List.set_cons_succ] at hCl hHeld
  try simp only [Act.put]
  try simp only [List.setIfInBounds_toArray, List.set_cons_zero, List.set_cons_succ]
  refine reg_takeG 12 ?_ ?_ ?_ (by kernel_rfl) (by kernel_rfl) (by kernel_rfl) (fun _ _ _ h => h) ?_ ?_ ?_ hCl hHeld ?_
  rotate_left 2
  · simp only [List.getElem?_toArray, List.getElem?_cons_succ, List.getElem?_cons_zero]; exact rfl
  · intro l w'; rw [hSSr, hSSr]; rw [getD_set_ne (i := 12) (j := 17) true (by decide)]
  · rfl
  · intro w' hA; clear hA; go_simp; try with_reducible rfl
  clear hCl hHeld
  intro hCl hHeld
  simp only [List.setIfInBounds_toArray, List.set_cons_zero, List.set_cons_succ] at hCl hHeld
  try simp only [Act.put]
  try simp only [List.setIfInBounds_toArray, List.set_cons_zero, List.set_cons_succ]
  refine reg_takeG 13 ?_ ?_ ?_ (by kernel_rfl) (by kernel_rfl) (by kernel_rfl) (fun _ _ _ h => h) ?_ ?_ ?_ hCl hHeld ?_
  rotate_left 2
  · simp only [List.getElem?_toArray, List.getElem?_cons_succ, List.getElem?_cons_zero]; exact rfl
  · intro l w'; rw [hSSr, hSSr]; rw [getD_set_ne (i := 13) (j := 17) true (by decide)]
  · rfl
  · intro w' hA; clear hA; go_simp; try with_reducible rfl
  clear hCl hHeld
  intro hCl hHeld
  simp only [List.setIfInBounds_toArray, List.set_cons_zero, List.set_cons_succ] at hCl hHeld
  try simp only [Act.put]
  try simp only [List.setIfInBounds_toArray, List.set_cons_zero, List.set_cons_succ]
  refine reg_takeG 14 ?_ ?_ ?_ (by kernel_rfl) (by kernel_rfl) (by kernel_rfl) (fun _ _ _ h => h) ?_ ?_ ?_ hCl hHeld ?_
  rotate_left 2
  · simp only [List.getElem?_toArray, List.getElem?_cons_succ, List.getElem?_cons_zero]; exact rfl
  · intro l w'; rw [hSSr, hSSr]; rw [getD_set_ne (i := 14) (j := 17) true (by decide)]
  · rfl
  · intro w' hA; clear hA; go_simp; try with_reducible rfl
  clear hCl hHeld
  intro hCl hHeld
  simp only [List.setIfInBounds_toArray, List.set_cons_zero, List.set_cons_succ] at hCl hHeld
  try simp only [Act.put]
  try simp only [List.setIfInBounds_toArray, List.set_cons_zero, List.set_cons_succ]
  refine reg_takeG 15 ?_ ?_ ?_ (by kernel_rfl) (by kernel_rfl) (by kernel_rfl) (fun _ _ _ h => h) ?_ ?_ ?_ hCl hHeld ?_
  rotate_left 2
  · simp only [List.getElem?_toArray, List.getElem?_cons_succ, List.getElem?_cons_zero]; exact rfl
  · intro l w'; rw [hSSr, hSSr]; rw [getD_set_ne (i := 15) (j := 17) true (by decide)]
  · rfl
  · intro w' hA; clear hA; go_simp; try with_reducible rfl
  clear hCl hHeld
  intro hCl hHeld
  simp only [List.setIfInBounds_toArray, List.set_cons_zero, List.set_cons_succ] at hCl hHeld
  try simp only [Act.put]
  try simp only [List.setIfInBounds_toArray, List.set_cons_zero, List.set_cons_succ]
  refine reg_takeG 16 ?_ ?_ ?_ (by kernel_rfl) (by kernel_rfl) (by kernel_rfl) (fun _ _ _ h => h) ?_ ?_ ?_ hCl hHeld ?_
  rotate_left 2
  · simp only [List.getElem?_toArray, List.getElem?_cons_succ, List.getElem?_cons_zero]; exact rfl
  · intro l w'; rw [hSSr, hSSr]; rw [getD_set_ne (i := 16) (j := 17) true (by decide)]
  · rfl
  · intro w' hA; clear hA; go_simp; try with_reducible rfl
  clear hCl hHeld
  intro hCl hHeld
  simp only [List.setIfInBounds_toArray, List.set_cons_zero, List.set_cons_succ] at hCl hHeld
  try simp only [Act.put]
  try simp only [List.setIfInBounds_toArray, List.set_cons_zero, List.set_cons_succ]
  refine reg_takeG 18 ?_ ?_ ?_ (by kernel_rfl) (by kernel_rfl) (by kernel_rfl) (fun _ _ _ h => h) ?_ ?_ ?_ hCl hHeld ?_
  rotate_left 2
  · simp only [List.getElem?_toArray, List.getElem?_cons_succ, List.getElem?_cons_zero]; exact rfl
  · intro l w'; rw [hSSr, hSSr]; rw [getD_set_ne (i := 18) (j := 17) true (by decide)]
  · rfl
  · intro w' hA; clear hA; go_simp; try with_reducible rfl
  clear hCl hHeld
  intro hCl hHeld
  simp only [List.setIfInBounds_toArray, List.set_cons_zero, List.set_cons_succ] at hCl hHeld
  try simp only [Act.put]
  try simp only [List.setIfInBounds_toArray, List.set_cons_zero, List.set_cons_succ]
  refine reg_takeG 19 ?_ ?_ ?_ (by kernel_rfl) (by kernel_rfl) (by kernel_rfl) (fun _ _ _ h => h) ?_ ?_ ?_ hCl hHeld ?_
  rotate_left 2
  · simp only [List.getElem?_toArray, List.getElem?_cons_succ, List.getElem?_cons_zero]; exact rfl
  · intro l w'; rw [hSSr, hSSr]; rw [getD_set_ne (i := 19) (j := 17) true (by decide)]
  · rfl
  · intro w' hA; clear hA; go_simp; try with_reducible rfl
  clear hCl hHeld
  intro hCl hHeld
  simp only [List.setIfInBounds_toArray, List.set_cons_zero, List.set_cons_succ] at hCl hHeld
  try simp only [Act.put]
  try simp only [List.setIfInBounds_toArray, List.set_cons_zero, List.set_cons_succ]
  clear hCl hHeld
  refine reg_callG 17 ?_ (by kernel_rfl) ?_ (fun K hK => ?_)
  rotate_left 1
  · simp only [List.getElem?_toArray, List.getElem?_cons_succ, List.getElem?_cons_zero]; exact rfl
  go_simp
  refine hK.out _ _ ((hSSr _ _).2 (fun h => absurd h (by decide))) ?_
  clear hK K
  try simp only [Act.put]
  try simp only [List.setIfInBounds_toArray, List.set_cons_zero, List.set_cons_succ]
  refine reg_callG 20 ?_ (by kernel_rfl) ?_ (fun K hK => ?_)
  rotate_left 1
  · simp only [List.getElem?_toArray, List.getElem?_cons_succ, List.getElem?_cons_zero]; exact rfl
  go_simp
  refine hK.out _ _ ((hSSr _ _).2 (fun h => absurd h (by decide))) ?_
  clear hK K
  try simp only [Act.put]
  try simp only [List.setIfInBounds_toArray, List.set_cons_zero, List.set_cons_succ]
  refine reg_callG 21 ?_ (by kernel_rfl) ?_ (fun K hK => ?_)
  rotate_left 1
  · simp only [List.getElem?_toArray, List.getElem?_cons_succ, List.getElem?_cons_zero]; exact rfl
  go_simp
  refine hK.out _ _ ((hSSr _ _).2 (fun h => absurd h (by decide))) ?_
  clear hK K
  try simp only [Act.put]
  try simp only [List.setIfInBounds_toArray, List.set_cons_zero, List.set_cons_succ]
  refine wpAnyG_done (by kernel_rfl) ?_ _
  refine NoPanic.normal ?_
  clear hSSr SSr
  go_wp2
  go_end0
  exact ⟨rfl, HO3.out, HM.out⟩
end Go.Proofs.Ytnabdopnlinklaa
/- mesh's writers: Make. -/
namespace Go.MagM
open Go.RowKit
def newT (a b c : Int) : TriM := ⟨a, b, c, -1, -1, -1, false, false, false⟩
/-- The first triangle that is gone. -/
def freeK (S : List TriM) : Option Nat := S.findIdx? goneB
def makeK (S : List TriM) : Nat := match freeK S with
  | some k => k
  | none => S.length
def makeM (S : List TriM) (a b c : Int) : List TriM := match freeK S with
  | some k => S.set k (newT a b c)
  | none => S ++ [newT a b c]
section
variable {P : Program}
/-- append: some slice comes, in the block where the first one lay, or in a new one. -/
theorem run_append_where (w : World) (base : Nat) (t ty e : TypeId) (i : TypeInfo) (z : Value) (size bytes : Nat) (ht : P.underlying t = some (.slice e)) (hi : P.info? e = some i) (hz : i.zero = some z)
    (hsize : i.size = size) (hby : i.bytes = bytes) (hzs : z.cells.size = size)
    (v : Value) (n : Nat) (xs : List Value) (hrow : w.ownsRow base e size v n xs)
    (a : Addr) (m c : Nat) (news : List Value) (hm0 : 0 < m) (hl : news.length = m * size) (hnews : ∀ j u, news[j]? = some u → w.cell? (a.add j) = some u) (h1 : ∀ u ∈ news, u.oneCell' = true)
    (h63 : n + m ≤ maxLen) (hbytes : (n + m) * bytes ≤ 140737488355328) (hbase : base ≤ w.heap.size) :
    ∃ v' w', (Builtin.append_ #[t, t] ty #[v, .slice (some a) m c]).run P w = .ok v' w' ∧ w'.ownsRow base e size v' (n + m) (xs ++ news) ∧ w.grownBy w' v.ownBlock ∧ (v'.ownBlock = v.ownBlock ∨ ∀ k, v'.ownBlock = some k → w.heap.size ≤ k) := by
  subst hsize
  subst hby
  have hlen : (xs ++ news).length = (n + m) * i.size := by rw [List.length_append, hrow.1, hl, Nat.add_mul]
  have grown : ∀ (old : Nat), old < n + m → ∀ (row : Option Nat),
      (w.drew.alloc (.cells (xs.toArray ++ news.toArray ++ Builtin.zeroCells z.cells (grownCap w (n + m) old e - (n + m))) e)).ownsRow base e i.size
        (.slice (some ⟨w.heap.size, 0, none⟩) (n + m) (grownCap w (n + m) old e)) (n + m) (xs ++ news) ∧
      w.grownBy (w.drew.alloc (.cells (xs.toArray ++ news.toArray ++ Builtin.zeroCells z.cells (grownCap w (n + m) old e - (n + m))) e)) row := by
    intro old ho row
    have hge := grownCap_ge w (n + m) old e
    have hcm : grownCap w (n + m) old e ≤ maxLen := grownCap_le_maxLen w (n + m) old e h63
    refine ⟨⟨hlen, .inr ⟨w.heap.size, _, _, rfl, hbase, heap_alloc_new w.drew _, hge, hcm, ?_, ?_⟩⟩, ⟨rfl, rfl, rfl, by simp, fun k hk _ => Below.heap_alloc w.drew _ k hk⟩⟩
    · simp only [Array.size_append, List.size_toArray, size_zeroCells, hzs, hrow.1, hl, ← Nat.add_mul]
      congr 1
      omega
    · simp only [Array.toList_append, List.append_assoc]
      rw [← List.append_assoc, ← hlen]
      exact List.take_left
  have hrow' := hrow
  rcases hrow.2 with ⟨rfl, rfl⟩ | ⟨g, cap, cur, rfl, hbg, hg, hnc, hcm, hcs, htake⟩
  · have hx : xs = [] := List.eq_nil_of_length_eq_zero (by simpa using hrow.1)
    subst hx
    have hr := run_append_nil (P := P) w t ty e i z ht hi hz a m c news hl hnews hm0 (by simp only [maxLen] at h63; omega) (by have hb := hbytes; simp only [Nat.zero_add] at hb; omega)
    have hgr := grown 0 (by omega) (Value.ownBlock (.slice none 0 0))
    simp only [Nat.zero_add, List.nil_append, Array.empty_append] at hgr ⊢
    exact ⟨_, _, hr, hgr.1, hgr.2, .inr fun k hk => by simp [Value.ownBlock] at hk; omega⟩
  · by_cases hroom : n + m ≤ cap
    · have hfit : n * i.size + news.length ≤ cur.size := by rw [hl, hcs, ← Nat.add_mul]; exact Nat.mul_le_mul_right _ hroom
      have hr := run_append_room (P := P) w t ty e i ht hi g n cap cur hg a m c news hl hnews h1 hroom hfit
      refine ⟨_, _, hr, ⟨hlen, .inr ⟨g, cap, _, rfl, hbg, setRow_heap w g cur _ e _ hg, hroom, hcm, ?_, ?_⟩⟩, ⟨rfl, rfl, rfl, by simp, fun k _ hk => setRow_other w g k _ (fun e => hk (by simp [Value.ownBlock, e]))⟩, .inl rfl⟩
      · simp only [List.size_toArray, List.length_append, List.length_take, List.length_drop, Array.length_toList]
        omega
      · rw [htake, ← hlen]
        exact List.take_left
    · have holds : ∀ j u, xs[j]? = some u → w.cell? ((⟨g, 0, none⟩ : Addr).add j) = some u := hrow'.cells (g := g) rfl
      have hr := run_append_grow (P := P) w t ty e i z ht hi hz ⟨g, 0, none⟩ n cap xs hrow'.1 holds a m c news hl hnews (by omega) (by simp only [maxLen] at h63; omega) (growslice_fits (by omega) hbytes)
      have hgr := grown cap (by omega) (Value.ownBlock (.slice (some ⟨g, 0, none⟩) n cap))
      exact ⟨_, _, hr, hgr.1, hgr.2, .inr fun k hk => by simp [Value.ownBlock] at hk; omega⟩
end
theorem Box.nine {w : World} {g : Nat} {u0 u1 u2 u3 u4 u5 u6 u7 u8 : Value} (h : Box w g [u0, u1, u2, u3, u4, u5, u6, u7, u8]) : w.cell? ⟨g, 0, none⟩ = some u0 ∧ w.cell? ⟨g, 1, none⟩ = some u1 ∧ w.cell? ⟨g, 2, none⟩ = some u2 ∧ w.cell? ⟨g, 3, none⟩ = some u3 ∧ w.cell? ⟨g, 4, none⟩ = some u4 ∧ w.cell? ⟨g, 5, none⟩ = some u5 ∧ w.cell? ⟨g, 6, none⟩ = some u6 ∧ w.cell? ⟨g, 7, none⟩ = some u7 ∧ w.cell? ⟨g, 8, none⟩ = some u8 :=
  ⟨h.c 0 _ rfl, h.c 1 _ rfl, h.c 2 _ rfl, h.c 3 _ rfl, h.c 4 _ rfl, h.c 5 _ rfl, h.c 6 _ rfl, h.c 7 _ rfl, h.c 8 _ rfl⟩
theorem Mut.drew {w w' : World} {mb : Nat} {tv tv' : Value} (h : Mut w w' mb tv tv') : Mut w w'.drew mb tv tv' := ⟨h.os, h.tape, h.output, h.size, h.keep⟩
theorem triCells_one' (T : TriM) : ∀ u ∈ T.cells, u.oneCell' = true := by
  intro u hu
  simp [TriM.cells] at hu
  rcases hu with rfl | rfl | rfl | rfl | rfl | rfl | rfl | rfl | rfl <;> rfl
end Go.MagM
namespace Go.Proofs.Ytnabdopnlinklaa
open Go.RowKit Go.MagM
theorem infoT : (Try.prog.info? 37).map (fun i => (i.zero, i.size, i.bytes)) = some (some (.agg #[.int .i64 0, .int .i64 0, .int .i64 0, .int .i64 0, .int .i64 0, .int .i64 0, .bool false, .bool false, .bool false]), 9, 56) := by kernel_rfl
/-- What an append of one triangle leaves, once the mesh knows of it. -/
theorem make_end {p e : TypeId} {w w' : World} {lo mb pb pc tc g c len : Nat} {ta : Option Addr} {P : List (Int × Int)} {S : List TriM} {a b c' : Int} (h : MeshO p e w lo mb pb pc (.slice ta len tc) P S) (hlen : S.length = len)
    (hrow : w'.ownsRow lo e 9 (.slice (some ⟨g, 0, none⟩) (len + 1) c) (len + 1) (triCells S ++ (newT a b c').cells)) (hg : w.grownBy w' (Value.ownBlock (.slice ta len tc))) (hwh : Value.ownBlock (.slice (some ⟨g, 0, none⟩) (len + 1) c) = Value.ownBlock (.slice ta len tc) ∨ ∀ k, Value.ownBlock (.slice (some ⟨g, 0, none⟩) (len + 1) c) = some k → w.heap.size ≤ k) (hsh : len + 1 ≤ 1000000 := by omega) :
    Box w' mb [.slice (some ⟨pb, 0, none⟩) P.length pc, .slice ta len tc] ∧ w'.cell? ⟨mb, 1, none⟩ = some (.slice ta len tc) ∧ w'.frozen? ⟨mb, 1, none⟩ = false ∧
    MeshO p e (w'.setCell ⟨mb, 1, none⟩ (.slice (some ⟨g, 0, none⟩) (len + 1) c)) lo mb pb pc (.slice (some ⟨g, 0, none⟩) (len + 1) c) P (S ++ [newT a b c']) ∧ Mut w (w'.setCell ⟨mb, 1, none⟩ (.slice (some ⟨g, 0, none⟩) (len + 1) c)) mb (.slice ta len tc) (.slice (some ⟨g, 0, none⟩) (len + 1) c) := by
  have hbx : Box w' mb [.slice (some ⟨pb, 0, none⟩) P.length pc, .slice ta len tc] := h.box.grown hg (fun e => h.apart.1 e) h.low.2.1
  have hs := hbx.set 1 (.slice (some ⟨g, 0, none⟩) (len + 1) c)
  have hgk : ∀ k, k < w.heap.size → Value.ownBlock (.slice ta len tc) ≠ some k → g ≠ k := by
    intro k hk hne e
    subst e
    rcases hwh with h1 | h1
    · exact hne (by rw [← h1]; rfl)
    · have := h1 g rfl; omega
  have hgm := hgk mb h.low.2.1 h.apart.1
  have hgp := hgk pb h.low.2.2.1 h.apart.2
  have htu : Turned w' (w'.setCell ⟨mb, 1, none⟩ (.slice (some ⟨g, 0, none⟩) (len + 1) c)) mb := (Turned.refl _ _).setCell 1 _
  have hlen1 : (S ++ [newT a b c']).length = len + 1 := by simp [hlen]
  have htc : triCells (S ++ [newT a b c']) = triCells S ++ (newT a b c').cells := by rw [triCells_app]; simp [triCells]
  have hsz := hg.size
  have hlow := h.low
  refine ⟨hbx, hbx.c1, hbx.f 1 _ rfl, ⟨hs, ?_, ?_, ?_, ⟨fun e => ?_, fun e => ?_⟩, ?_⟩, ⟨hg.os, hg.tape, hg.output, by rw [htu.size]; exact hg.size, fun k hk h1 h2 => ⟨?_, fun e => ?_⟩⟩⟩
  · refine owns_same h.prow fun k hk => ?_
    obtain rfl : k = pb := (by simpa [Value.ownBlock] using hk.symm)
    exact (htu.block _ hlow.2.2.2).trans (hg.block _ hlow.2.2.1 (fun e => h.apart.2 e.symm))
  · rw [hlen1, htc]
    exact owns_turned hrow htu (fun e => hgm (by simpa [Value.ownBlock] using e))
  · rw [htu.size]; omega
  · exact hgm (by simpa [Value.ownBlock] using e)
  · exact hgp (by simpa [Value.ownBlock] using e)
  · rw [hlen1]; exact ⟨h.short.1, hsh⟩
  · exact (htu.block k h1).trans (hg.block k hk (fun e => h2 e.symm))
  · exact hgk k hk h2 (by simpa [Value.ownBlock] using e)
set_option maxRecDepth 100000 in
set_option maxHeartbeats 16000000 in
theorem mkTri_any {lo mb pb pc : Nat} {tv : Value} {P : List (Int × Int)} {S : List TriM} (a b c : Int) (w : World) (h : MeshO 26 37 w lo mb pb pc tv P S) (hroom : S.length + 1 ≤ 1000000) :
    Calls Try.prog 23 #[.pointer (some ⟨mb, 0, none⟩), .int .i64 a, .int .i64 b, .int .i64 c] w fun e w' => ∃ tv', e = .returned (.int .i64 (makeK S : Nat)) ∧ MeshO 26 37 w' lo mb pb pc tv' P (makeM S a b c) ∧ Mut w w' mb tv tv' := by
  obtain ⟨i0, hi, hz0, hz1, hz2⟩ := info_parts infoT
  have HI := Lib.hid hi; have HZ0 := Lib.hid hz0; have HZ1 := Lib.hid hz1; have HZ2 := Lib.hid hz2
  clear hi hz0 hz1 hz2
  obtain ⟨ta, tc, rfl, hr⟩ := h.read
  obtain ⟨wz, hwz, pz_0, hbz, hsz⟩ := new_box w _ rfl [.int .i64 0, .int .i64 0, .int .i64 0, .int .i64 0, .int .i64 0, .int .i64 0, .bool false, .bool false, .bool false] 37
  obtain ⟨w1, hw1⟩ : ∃ w1, setAll wz w.heap.size 0 [.int .i64 a, .int .i64 b, .int .i64 c, .int .i64 (-1), .int .i64 (-1), .int .i64 (-1), .bool false, .bool false, .bool false] = w1 := ⟨_, rfl⟩
  have px_0 : Box w1 w.heap.size [.int .i64 a, .int .i64 b, .int .i64 c, .int .i64 (-1), .int .i64 (-1), .int .i64 (-1), .bool false, .bool false, .bool false] := by rw [← hw1]; exact pz_0.setAll [.int .i64 a, .int .i64 b, .int .i64 c, .int .i64 (-1), .int .i64 (-1), .int .i64 (-1), .bool false, .bool false, .bool false] rfl
  have hb1 : Below w.heap.size w w1 := by rw [← hw1]; exact below_setAll hbz (Nat.le_refl _) _
  have HPZ := Lib.hid pz_0; have HW1 := Lib.hid hw1
  clear pz_0 hbz hsz hw1
  have ho1 := h.below hb1
  have hr1 := hr.below hb1
  have hm1 : Mut w w1 mb (.slice ta S.length tc) (.slice ta S.length tc) := Mut.of_below hb1 (fun k hk => (h.row.lt k hk).2)
  obtain ⟨len, hlen⟩ : ∃ len, S.length = len := ⟨_, rfl⟩
  have HLEN := Lib.hid hlen
  have H1 := Lib.hid ho1; have HR1 := Lib.hid hr1; have HM1 := Lib.hid hm1
  rw [hlen] at hroom
  have b0 := ho1.box.c0; have b1 := ho1.box.c1
  rw [hlen] at b1
  obtain ⟨x0, x1, x2, x3, x4, x5, x6, x7, x8⟩ := px_0.nine
  obtain ⟨r, hrk⟩ : ∃ r, makeK S = r := ⟨_, rfl⟩
  obtain ⟨S', hS'⟩ : ∃ S', makeM S a b c = S' := ⟨_, rfl⟩
  rw [hrk, hS']
  have HRK := Lib.hid hrk; have HS' := Lib.hid hS'
  rw [hlen]
  clear h hr ho1 hr1 hm1 hlen hrk hS'
  go_enter Try.func23, Try.ntmps23
  go_wp2_with (with_reducible refine wpList_store_box rfl _ _ _ rfl [.int .i64 a, .int .i64 b, .int .i64 c, .int .i64 (-1), .int .i64 (-1), .int .i64 (-1), .bool false, .bool false, .bool false] HPZ.out rfl rfl (by kernel_rfl) (by simp) rfl HW1.out ?_)
  clear hwz
  clear x0 x1 x2 x3 x4 x5 x6 x7 x8 b0 b1
  go_loop [10, 22] (fun _ iv => ∃ k : Nat, k ≤ len ∧ iv = .int .i64 k ∧ ∀ j T, j < k → S[j]? = some T → goneB T = false) (fun _ iv => len - (intOf iv).toNat)
  case atStart => exact ⟨0, Nat.zero_le _, rfl, fun j T hj => by omega⟩
  case round =>
    obtain ⟨k, hk, rfl, hne⟩ := hrel
    have HNE := Lib.hid hne; clear hne
    by_cases hlt : k < len
    · obtain ⟨T, hT⟩ : ∃ T, S[k]? = some T := ⟨_, List.getElem?_eq_getElem (by rw [HLEN.out]; exact hlt)⟩
      have b0 := H1.out.box.c0; have b1 := H1.out.box.c1
      obtain ⟨tb, hta, htl, ht9⟩ := HR1.out.tris.get hT
      subst hta
      rw [HLEN.out] at b1
      have hgone := gone_any tb (k * 9) T w1 ht9.c0 ht9.c1 ht9.c2
      have HT := Lib.hid hT; clear hT ht9
      cases hg : goneB T with
      | false =>
        rw [hg] at hgone
        have HG := Lib.hid hgone; have HGB := Lib.hid hg; clear hgone hg
        go_wp2_with fail
        refine HG.out.mono ?_
        rintro e w' ⟨rfl, rfl⟩
        go_wp2
        go_round
        case rel => exact ⟨k + 1, by omega, by go_num, fun j T' hj hT' => by
          rcases Nat.lt_or_ge j k with g | g
          · exact HNE.out j T' g hT'
          · obtain rfl : j = k := by omega
            rw [HT.out] at hT'; cases hT'; exact HGB.out⟩
        case measure => simp [intOf]; omega
      | true =>
        rw [hg] at hgone
        have hfk : freeK S = some k := by
          unfold freeK
          rw [List.findIdx?_eq_some_iff_getElem]
          refine ⟨by rw [HLEN.out]; exact hlt, ?_, fun j hj => ?_⟩
          · have := HT.out; rw [List.getElem?_eq_some_iff] at this; obtain ⟨_, e⟩ := this; rw [e]; exact hg
          · have := HNE.out j _ hj (List.getElem?_eq_getElem (by rw [HLEN.out]; omega)); rw [this]; simp
        have e1 : r = k := by rw [← HRK.out]; unfold makeK; rw [hfk]
        have e2 : S' = S.set k (newT a b c) := by rw [← HS'.out]; unfold makeM; rw [hfk]
        subst e1 e2
        have HG := Lib.hid hgone
        have hd := H1.out.drew
        have hbx := owns_box hd.row
        have hlx : r * 9 + (newT a b c).cells.length ≤ (triCells S).length := by rw [triCells_len, TriM.cells_len, HLEN.out]; omega
        obtain ⟨ho, hm⟩ := hd.setT (S' := S.set r (newT a b c)) (r * 9) (newT a b c).cells (by simp) (setL_tri (by rw [HLEN.out]; exact hlt) (newT a b c))
        have ct := hd.box.c1
        rw [HLEN.out] at ct hm ho
        obtain ⟨wn, hwn⟩ : ∃ wn, setAll w1.drew tb (r * 9) (newT a b c).cells = wn := ⟨_, rfl⟩
        rw [hwn] at ho hm
        have hmm := HM1.out
        rw [HLEN.out] at hmm
        have hmw := hmm.drew.trans hm
        have HO := Lib.hid ho; have HM := Lib.hid hmw; have HBX := Lib.hid hbx; have HLX := Lib.hid hlx; have HWN := Lib.hid hwn
        have pd_0 := px_0.drew
        obtain ⟨x0, x1, x2, x3, x4, x5, x6, x7, x8⟩ := pd_0.nine
        have hb1' : (0 : Int) ≤ (r : Int) := by omega
        have hb2' : (r : Int) < (len : Int) := by omega
        clear hgone hd hbx hlx ho hm hmm hmw hwn hfk hg pd_0
        go_wp2_with fail
        refine HG.out.mono ?_
        rintro e w' ⟨rfl, rfl⟩
        go_wp2
        obtain ⟨SSq, hSSq⟩ : ∃ S : Array Bool → World → Prop, ∀ l w', S l w' ↔ ((l.getD 7 true = false → w'.cell? ⟨mb, 1, none⟩ = some (.slice (some ⟨tb, 0, none⟩) len tc)) ∧ (l.getD 7 true = false → w'.cell? ⟨w.heap.size, 0, none⟩ = some (.int .i64 a)) ∧ (l.getD 7 true = false → w'.cell? ⟨w.heap.size, 1, none⟩ = some (.int .i64 b)) ∧ (l.getD 7 true = false → w'.cell? ⟨w.heap.size, 2, none⟩ = some (.int .i64 c)) ∧ (l.getD 7 true = false → w'.cell? ⟨w.heap.size, 3, none⟩ = some (.int .i64 (-1))) ∧ (l.getD 7 true = false → w'.cell? ⟨w.heap.size, 4, none⟩ = some (.int .i64 (-1))) ∧ (l.getD 7 true = false → w'.cell? ⟨w.heap.size, 5, none⟩ = some (.int .i64 (-1))) ∧ (l.getD 7 true = false → w'.cell? ⟨w.heap.size, 6, none⟩ = some (.bool false)) ∧ (l.getD 7 true = false → w'.cell? ⟨w.heap.size, 7, none⟩ = some (.bool false)) ∧ (l.getD 7 true = false → w'.cell? ⟨w.heap.size, 8, none⟩ = some (.bool false))) := ⟨_, fun _ _ => Iff.rfl⟩
        refine wp_region_noPanic ?_
        refine wp_region_G SSq 8 #[false, false, false, false, false, false, false, false] (by kernel_rfl) (by kernel_rfl) (by kernel_rfl) ((hSSq _ _).2 ⟨(fun _ => ct), (fun _ => x0), (fun _ => x1), (fun _ => x2), (fun _ => x3), (fun _ => x4), (fun _ => x5), (fun _ => x6), (fun _ => x7), (fun _ => x8)⟩) (fun hCl hHeld => ?_)
        generalize w1.drew = w2 at *
        refine reg_takeG 0 ?_ ?_ ?_ (by kernel_rfl) (by kernel_rfl) (by kernel_rfl) (fun _ _ _ h => h) ?_ ?_ ?_ hCl hHeld ?_
        rotate_left 2
        · simp only [List.getElem?_toArray, List.getElem?_cons_zero]; exact rfl
        · intro l w'; rw [hSSq, hSSq]; rw [getD_set_ne (i := 0) (j := 7) true (by decide)]
        · rfl
        · intro w' hA; clear hA; go_simp; try with_reducible rfl
        clear hCl hHeld
        intro hCl hHeld
        simp only [List.setIfInBounds_toArray, List.set_cons_zero] at hCl hHeld
        try simp only [Act.put]
        try simp only [List.setIfInBounds_toArray, List.set_cons_zero, List.set_cons_succ]
        refine reg_takeG 1 ?_ ?_ ?_ (by kernel_rfl) (by kernel_rfl) (by kernel_rfl) (fun _ _ _ h => h) ?_ ?_ ?_ hCl hHeld ?_
        rotate_left 2
        · simp only [List.getElem?_toArray, List.getElem?_cons_succ, List.getElem?_cons_zero]; exact rfl
        · intro l w'; rw [hSSq, hSSq]; rw [getD_set_ne (i := 1) (j := 7) true (by decide)]
        · rfl
        · intro w' hA; clear hA; go_simp; try with_reducible rfl
        clear hCl hHeld
        intro hCl hHeld
        simp only [List.setIfInBounds_toArray, List.set_cons_zero, List.set_cons_succ] at hCl hHeld
        try simp only [Act.put]
        try simp only [List.setIfInBounds_toArray, List.set_cons_zero, List.set_cons_succ]
        refine reg_takeG 2 ?_ ?_ ?_ (by kernel_rfl) (by kernel_rfl) (by kernel_rfl) (fun _ _ _ h => h) ?_ ?_ ?_ hCl hHeld ?_
        rotate_left 2
        · simp only [List.getElem?_toArray, List.getElem?_cons_succ, List.getElem?_cons_zero]; exact rfl
        · intro l w'; rw [hSSq, hSSq]; rw [getD_set_ne (i := 2) (j := 7) true (by decide)]
        · rfl
        · intro w' hA; clear hA; go_simp; try with_reducible rfl
        clear hCl hHeld
        intro hCl hHeld
        simp only [List.setIfInBounds_toArray, List.set_cons_zero, List.set_cons_succ] at hCl hHeld
        try simp only [Act.put]
        try simp only [List.setIfInBounds_toArray, List.set_cons_zero, List.set_cons_succ]
        refine reg_takeG 3 ?_ ?_ ?_ (by kernel_rfl) (by kernel_rfl) (by kernel_rfl) (fun _ _ _ h => h) ?_ ?_ ?_ hCl hHeld ?_
        rotate_left 2
        · simp only [List.getElem?_toArray, List.getElem?_cons_succ, List.getElem?_cons_zero]; exact rfl
        · intro l w'; rw [hSSq, hSSq]; rw [getD_set_ne (i := 3) (j := 7) true (by decide)]
        · rfl
        · intro w' hA; obtain ⟨l, hl, hi, hSl⟩ := hA; have hSl := (hSSq _ _).1 hSl; obtain ⟨hy0, hy1, hy2, hy3, hy4, hy5, hy6, hy7, hy8, hy9⟩ := hSl; have hz0 := hy0 (hl.not (t := 7) (by kernel_rfl) hi); have hz1 := hy1 (hl.not (t := 7) (by kernel_rfl) hi); have hz2 := hy2 (hl.not (t := 7) (by kernel_rfl) hi); have hz3 := hy3 (hl.not (t := 7) (by kernel_rfl) hi); have hz4 := hy4 (hl.not (t := 7) (by kernel_rfl) hi); have hz5 := hy5 (hl.not (t := 7) (by kernel_rfl) hi); have hz6 := hy6 (hl.not (t := 7) (by kernel_rfl) hi); have hz7 := hy7 (hl.not (t := 7) (by kernel_rfl) hi); have hz8 := hy8 (hl.not (t := 7) (by kernel_rfl) hi); have hz9 := hy9 (hl.not (t := 7) (by kernel_rfl) hi); go_simp; try with_reducible rfl
        clear hCl hHeld
        intro hCl hHeld
        simp only [List.setIfInBounds_toArray, List.set_cons_zero, List.set_cons_succ] at hCl hHeld
        try simp only [Act.put]
        try simp only [List.setIfInBounds_toArray, List.set_cons_zero, List.set_cons_succ]
        refine reg_takeG 4 ?_ ?_ ?_ (by kernel_rfl) (by kernel_rfl) (by kernel_rfl) (fun _ _ _ h => h) ?_ ?_ ?_ hCl hHeld ?_
        rotate_left 2
        · simp only [List.getElem?_toArray, List.getElem?_cons_succ, List.getElem?_cons_zero]; exact rfl
        · intro l w'; rw [hSSq, hSSq]; rw [getD_set_ne (i := 4) (j := 7) true (by decide)]
        · rfl
        · intro w' hA; clear hA; go_simp; try with_reducible rfl
        clear hCl hHeld
        intro hCl hHeld
        simp only [List.setIfInBounds_toArray, List.set_cons_zero, List.set_cons_succ] at hCl hHeld
        try simp only [Act.put]
        try simp only [List.setIfInBounds_toArray, List.set_cons_zero, List.set_cons_succ]
        refine reg_takeG 5 ?_ ?_ ?_ (by kernel_rfl) (by kernel_rfl) (by kernel_rfl) (fun _ _ _ h => h) ?_ ?_ ?_ hCl hHeld ?_
        rotate_left 2
        · simp only [List.getElem?_toArray, List.getElem?_cons_succ, List.getElem?_cons_zero]; exact rfl
        · intro l w'; rw [hSSq, hSSq]; rw [getD_set_ne (i := 5) (j := 7) true (by decide)]
        · rfl
        · intro w' hA; obtain ⟨l, hl, hi, hSl⟩ := hA; have hSl := (hSSq _ _).1 hSl; obtain ⟨hy0, hy1, hy2, hy3, hy4, hy5, hy6, hy7, hy8, hy9⟩ := hSl; have hz0 := hy0 (hl.not (t := 7) (by kernel_rfl) hi); have hz1 := hy1 (hl.not (t := 7) (by kernel_rfl) hi); have hz2 := hy2 (hl.not (t := 7) (by kernel_rfl) hi); have hz3 := hy3 (hl.not (t := 7) (by kernel_rfl) hi); have hz4 := hy4 (hl.not (t := 7) (by kernel_rfl) hi); have hz5 := hy5 (hl.not (t := 7) (by kernel_rfl) hi); have hz6 := hy6 (hl.not (t := 7) (by kernel_rfl) hi); have hz7 := hy7 (hl.not (t := 7) (by kernel_rfl) hi); have hz8 := hy8 (hl.not (t := 7) (by kernel_rfl) hi); have hz9 := hy9 (hl.not (t := 7) (by kernel_rfl) hi); go_simp; try with_reducible rfl
        clear hCl hHeld
        intro hCl hHeld
        simp only [List.setIfInBounds_toArray, List.set_cons_zero, List.set_cons_succ] at hCl hHeld
        try simp only [Act.put]
        try simp only [List.setIfInBounds_toArray, List.set_cons_zero, List.set_cons_succ]
        refine reg_takeG 6 ?_ ?_ ?_ (by kernel_rfl) (by kernel_rfl) (by kernel_rfl) (fun _ _ _ h => h) ?_ ?_ ?_ hCl hHeld ?_
        rotate_left 2
        · simp only [List.getElem?_toArray, List.getElem?_cons_succ, List.getElem?_cons_zero]; exact rfl
        · intro l w'; rw [hSSq, hSSq]; rw [getD_set_ne (i := 6) (j := 7) true (by decide)]
        · rfl
        · intro w' hA; clear hA; go_simp; try with_reducible rfl
        clear hCl hHeld
        intro hCl hHeld
        simp only [List.setIfInBounds_toArray, List.set_cons_zero, List.set_cons_succ] at hCl hHeld
        try simp only [Act.put]
        try simp only [List.setIfInBounds_toArray, List.set_cons_zero, List.set_cons_succ]
        clear hCl hHeld
        refine reg_callG 7 ?_ (by kernel_rfl) ?_ (fun K hK => ?_)
        rotate_left 1
        · simp only [List.getElem?_toArray, List.getElem?_cons_succ, List.getElem?_cons_zero]; exact rfl
        refine wanted_go rfl ?_
        refine wp_store_box _ _ _ rfl (newT a b c).cells HBX.out rfl rfl (by kernel_rfl) HLX.out rfl HWN.out ?_
        refine hK.out _ _ ((hSSq _ _).2 ⟨(fun h => absurd h (by decide)), (fun h => absurd h (by decide)), (fun h => absurd h (by decide)), (fun h => absurd h (by decide)), (fun h => absurd h (by decide)), (fun h => absurd h (by decide)), (fun h => absurd h (by decide)), (fun h => absurd h (by decide)), (fun h => absurd h (by decide)), (fun h => absurd h (by decide))⟩) ?_
        clear hK K
        try simp only [Act.put]
        try simp only [List.setIfInBounds_toArray, List.set_cons_zero, List.set_cons_succ]
        refine wpAnyG_done (by kernel_rfl) ?_ _
        refine NoPanic.normal ?_
        clear hSSq SSq
        go_wp2
        go_ret
        exact ⟨_, rfl, HO.out, HM.out⟩
    · have hfk : freeK S = none := by
        unfold freeK
        rw [List.findIdx?_eq_none_iff]
        intro T hT
        obtain ⟨j, hj, e⟩ := List.mem_iff_getElem.1 hT
        exact HNE.out j T (by rw [HLEN.out] at hj; omega) (by rw [List.getElem?_eq_getElem hj, e])
      have e1 : len = r := by rw [← HRK.out, ← HLEN.out]; unfold makeK; rw [hfk]
      have e2 : S' = S ++ [newT a b c] := by rw [← HS'.out]; unfold makeM; rw [hfk]
      subst e1 e2
      have hd := H1.out.drew
      have ct := hd.box.c1
      rw [HLEN.out] at ct hd
      have HO2 := Lib.hid hd
      have hmm := HM1.out.drew
      rw [HLEN.out] at hmm
      have HMM := Lib.hid hmm
      have pd_0 := px_0.drew
      obtain ⟨x0, x1, x2, x3, x4, x5, x6, x7, x8⟩ := pd_0.nine
      clear hd hmm hfk pd_0
      go_wp2
      obtain ⟨SSr, hSSr⟩ : ∃ S : Array Bool → World → Prop, ∀ l w', S l w' ↔ ((l.getD 7 true = false → w'.cell? ⟨mb, 1, none⟩ = some (.slice ta len tc)) ∧ (l.getD 6 true = false → w'.cell? ⟨w.heap.size, 0, none⟩ = some (.int .i64 a)) ∧ (l.getD 6 true = false → w'.cell? ⟨w.heap.size, 1, none⟩ = some (.int .i64 b)) ∧ (l.getD 6 true = false → w'.cell? ⟨w.heap.size, 2, none⟩ = some (.int .i64 c)) ∧ (l.getD 6 true = false → w'.cell? ⟨w.heap.size, 3, none⟩ = some (.int .i64 (-1))) ∧ (l.getD 6 true = false → w'.cell? ⟨w.heap.size, 4, none⟩ = some (.int .i64 (-1))) ∧ (l.getD 6 true = false → w'.cell? ⟨w.heap.size, 5, none⟩ = some (.int .i64 (-1))) ∧ (l.getD 6 true = false → w'.cell? ⟨w.heap.size, 6, none⟩ = some (.bool false)) ∧ (l.getD 6 true = false → w'.cell? ⟨w.heap.size, 7, none⟩ = some (.bool false)) ∧ (l.getD 6 true = false → w'.cell? ⟨w.heap.size, 8, none⟩ = some (.bool false))) := ⟨_, fun _ _ => Iff.rfl⟩
      refine wp_region_noPanic ?_
      refine wp_region_G SSr 11 #[false, false, false, false, false, false, false, false, false, false, false] (by kernel_rfl) (by kernel_rfl) (by kernel_rfl) ((hSSr _ _).2 ⟨(fun _ => ct), (fun _ => x0), (fun _ => x1), (fun _ => x2), (fun _ => x3), (fun _ => x4), (fun _ => x5), (fun _ => x6), (fun _ => x7), (fun _ => x8)⟩) (fun hCl hHeld => ?_)
      generalize w1.drew = w2 at *
      refine reg_takeG 0 ?_ ?_ ?_ (by kernel_rfl) (by kernel_rfl) (by kernel_rfl) (fun _ _ _ h => h) ?_ ?_ ?_ hCl hHeld ?_
      rotate_left 2
      · simp only [List.getElem?_toArray, List.getElem?_cons_zero]; exact rfl
      · intro l w'; rw [hSSr, hSSr]; rw [getD_set_ne (i := 0) (j := 7) true (by decide)]; rw [getD_set_ne (i := 0) (j := 6) true (by decide)]
      · rfl
      · intro w' hA; clear hA; go_simp; try with_reducible rfl
      clear hCl hHeld
      intro hCl hHeld
      simp only [List.setIfInBounds_toArray, List.set_cons_zero] at hCl hHeld
      try simp only [Act.put]
      try simp only [List.setIfInBounds_toArray, List.set_cons_zero, List.set_cons_succ]
      refine reg_takeG 1 ?_ ?_ ?_ (by kernel_rfl) (by kernel_rfl) (by kernel_rfl) (fun _ _ _ h => h) ?_ ?_ ?_ hCl hHeld ?_
      rotate_left 2
      · simp only [List.getElem?_toArray, List.getElem?_cons_succ, List.getElem?_cons_zero]; exact rfl
      · intro l w'; rw [hSSr, hSSr]; rw [getD_set_ne (i := 1) (j := 7) true (by decide)]; rw [getD_set_ne (i := 1) (j := 6) true (by decide)]
      · rfl
      · intro w' hA; clear hA; go_simp; try with_reducible rfl
      clear hCl hHeld
      intro hCl hHeld
      simp only [List.setIfInBounds_toArray, List.set_cons_zero, List.set_cons_succ] at hCl hHeld
      try simp only [Act.put]
      try simp only [List.setIfInBounds_toArray, List.set_cons_zero, List.set_cons_succ]
      refine reg_takeG 2 ?_ ?_ ?_ (by kernel_rfl) (by kernel_rfl) (by kernel_rfl) (fun _ _ _ h => h) ?_ ?_ ?_ hCl hHeld ?_
      rotate_left 2
      · simp only [List.getElem?_toArray, List.getElem?_cons_succ, List.getElem?_cons_zero]; exact rfl
      · intro l w'; rw [hSSr, hSSr]; rw [getD_set_ne (i := 2) (j := 7) true (by decide)]; rw [getD_set_ne (i := 2) (j := 6) true (by decide)]
      · rfl
      · intro w' hA; clear hA; go_simp; try with_reducible rfl
      clear hCl hHeld
      intro hCl hHeld
      simp only [List.setIfInBounds_toArray, List.set_cons_zero, List.set_cons_succ] at hCl hHeld
      try simp only [Act.put]
      try simp only [List.setIfInBounds_toArray, List.set_cons_zero, List.set_cons_succ]
      refine reg_takeG 3 ?_ ?_ ?_ (by kernel_rfl) (by kernel_rfl) (by kernel_rfl) (fun _ _ _ h => h) ?_ ?_ ?_ hCl hHeld ?_
      rotate_left 2
      · simp only [List.getElem?_toArray, List.getElem?_cons_succ, List.getElem?_cons_zero]; exact rfl
      · intro l w'; rw [hSSr, hSSr]; rw [getD_set_ne (i := 3) (j := 7) true (by decide)]; rw [getD_set_ne (i := 3) (j := 6) true (by decide)]
      · rfl
      · intro w' hA; clear hA; go_simp; try with_reducible rfl
      clear hCl hHeld
      intro hCl hHeld
      simp only [List.setIfInBounds_toArray, List.set_cons_zero, List.set_cons_succ] at hCl hHeld
      try simp only [Act.put]
      try simp only [List.setIfInBounds_toArray, List.set_cons_zero, List.set_cons_succ]
      refine reg_takeG 4 ?_ ?_ ?_ (by kernel_rfl) (by kernel_rfl) (by kernel_rfl) (fun _ _ _ h => h) ?_ ?_ ?_ hCl hHeld ?_
      rotate_left 2
      · simp only [List.getElem?_toArray, List.getElem?_cons_succ, List.getElem?_cons_zero]; exact rfl
      · intro l w'; rw [hSSr, hSSr]; rw [getD_set_ne (i := 4) (j := 7) true (by decide)]; rw [getD_set_ne (i := 4) (j := 6) true (by decide)]
      · rfl
      · intro w' hA; obtain ⟨l, hl, hi, hSl⟩ := hA; have hSl := (hSSr _ _).1 hSl; obtain ⟨hy0, -, -, -, -, -, -, -, -, -⟩ := hSl; have hz0 := hy0 (hl.not (t := 7) (by kernel_rfl) hi); go_simp; try with_reducible rfl
      clear hCl hHeld
      intro hCl hHeld
      simp only [List.setIfInBounds_toArray, List.set_cons_zero, List.set_cons_succ] at hCl hHeld
      try simp only [Act.put]
      try simp only [List.setIfInBounds_toArray, List.set_cons_zero, List.set_cons_succ]
      refine reg_takeG 5 ?_ ?_ ?_ (by kernel_rfl) (by kernel_rfl) (by kernel_rfl) (fun _ _ _ h => h) ?_ ?_ ?_ hCl hHeld ?_
      rotate_left 2
      · simp only [List.getElem?_toArray, List.getElem?_cons_succ, List.getElem?_cons_zero]; exact rfl
      · intro l w'; rw [hSSr, hSSr]; rw [getD_set_ne (i := 5) (j := 7) true (by decide)]; rw [getD_set_ne (i := 5) (j := 6) true (by decide)]
      · rfl
      · intro w' hA; obtain ⟨l, hl, hi, hSl⟩ := hA; have hSl := (hSSr _ _).1 hSl; obtain ⟨-, hy1, hy2, hy3, hy4, hy5, hy6, hy7, hy8, hy9⟩ := hSl; have hz1 := hy1 (hl.not (t := 6) (by kernel_rfl) hi); have hz2 := hy2 (hl.not (t := 6) (by kernel_rfl) hi); have hz3 := hy3 (hl.not (t := 6) (by kernel_rfl) hi); have hz4 := hy4 (hl.not (t := 6) (by kernel_rfl) hi); have hz5 := hy5 (hl.not (t := 6) (by kernel_rfl) hi); have hz6 := hy6 (hl.not (t := 6) (by kernel_rfl) hi); have hz7 := hy7 (hl.not (t := 6) (by kernel_rfl) hi); have hz8 := hy8 (hl.not (t := 6) (by kernel_rfl) hi); have hz9 := hy9 (hl.not (t := 6) (by kernel_rfl) hi); go_simp; try with_reducible rfl
      clear hCl hHeld
      intro hCl hHeld
      simp only [List.setIfInBounds_toArray, List.set_cons_zero, List.set_cons_succ] at hCl hHeld
      try simp only [Act.put]
      try simp only [List.setIfInBounds_toArray, List.set_cons_zero, List.set_cons_succ]
      clear hCl hHeld
      obtain ⟨w3, hw3, pq_0, hb3, hs3⟩ := new_box w2 _ rfl [.int .i64 a, .int .i64 b, .int .i64 c, .int .i64 (-1), .int .i64 (-1), .int .i64 (-1), .bool false, .bool false, .bool false] 37
      refine reg_callG 6 ?_ (by kernel_rfl) ?_ (fun K hK => ?_)
      rotate_left 1
      · simp only [List.getElem?_toArray, List.getElem?_cons_succ, List.getElem?_cons_zero]; exact rfl
      go_simp
      try rw [hw3]
      have ct3 := (hb3.cell (p := ⟨mb, 1, none⟩) (World.block_lt_of_cell? w2 _ ct)).trans ct
      refine hK.out _ _ ((hSSr _ _).2 ⟨(fun _ => ct3), (fun h => absurd h (by decide)), (fun h => absurd h (by decide)), (fun h => absurd h (by decide)), (fun h => absurd h (by decide)), (fun h => absurd h (by decide)), (fun h => absurd h (by decide)), (fun h => absurd h (by decide)), (fun h => absurd h (by decide)), (fun h => absurd h (by decide))⟩) ?_
      clear hK K
      try simp only [Act.put]
      try simp only [List.setIfInBounds_toArray, List.set_cons_zero, List.set_cons_succ]
      have ho3 := HO2.out.below hb3
      obtain ⟨v', w4, hrun, hrow4, hgrow, hwhere⟩ := run_append_where (P := Try.prog) w3 lo 42 42 37 i0 (.agg #[.int .i64 0, .int .i64 0, .int .i64 0, .int .i64 0, .int .i64 0, .int .i64 0, .bool false, .bool false, .bool false]) 9 56 (by kernel_rfl) HI.out HZ0.out HZ1.out HZ2.out rfl (.slice ta len tc) len _ (HLEN.out ▸ ho3.row) ⟨w2.heap.size, 0, none⟩ 1 1 [.int .i64 a, .int .i64 b, .int .i64 c, .int .i64 (-1), .int .i64 (-1), .int .i64 (-1), .bool false, .bool false, .bool false] (by omega) rfl pq_0.news (triCells_one' (newT a b c)) (by unfold maxLen; omega) (by omega) (by have := ho3.low; omega)
      refine reg_callG 7 ?_ (by kernel_rfl) ?_ (fun K hK => ?_)
      rotate_left 1
      · simp only [List.getElem?_toArray, List.getElem?_cons_succ, List.getElem?_cons_zero]; exact rfl
      refine wanted_go rfl ?_
      refine wp_append_row _ _ 42 rfl rfl rfl hrun ?_
      obtain ⟨g', cap', rfl⟩ := ownsRow_succ hrow4
      obtain ⟨hbx4, c4, f4, HFIN⟩ := make_end ho3 HLEN.out hrow4 hgrow hwhere
      refine hK.out _ _ ((hSSr _ _).2 ⟨(fun h => absurd h (by decide)), (fun h => absurd h (by decide)), (fun h => absurd h (by decide)), (fun h => absurd h (by decide)), (fun h => absurd h (by decide)), (fun h => absurd h (by decide)), (fun h => absurd h (by decide)), (fun h => absurd h (by decide)), (fun h => absurd h (by decide)), (fun h => absurd h (by decide))⟩) ?_
      clear hK K
      try simp only [Act.put]
      try simp only [List.setIfInBounds_toArray, List.set_cons_zero, List.set_cons_succ]
      refine reg_callG 8 ?_ (by kernel_rfl) ?_ (fun K hK => ?_)
      rotate_left 1
      · simp only [List.getElem?_toArray, List.getElem?_cons_succ, List.getElem?_cons_zero]; exact rfl
      go_simp
      refine hK.out _ _ ((hSSr _ _).2 ⟨(fun h => absurd h (by decide)), (fun h => absurd h (by decide)), (fun h => absurd h (by decide)), (fun h => absurd h (by decide)), (fun h => absurd h (by decide)), (fun h => absurd h (by decide)), (fun h => absurd h (by decide)), (fun h => absurd h (by decide)), (fun h => absurd h (by decide)), (fun h => absurd h (by decide))⟩) ?_
      clear hK K
      try simp only [Act.put]
      try simp only [List.setIfInBounds_toArray, List.set_cons_zero, List.set_cons_succ]
      refine reg_callG 9 ?_ (by kernel_rfl) ?_ (fun K hK => ?_)
      rotate_left 1
      · simp only [List.getElem?_toArray, List.getElem?_cons_succ, List.getElem?_cons_zero]; exact rfl
      go_simp
      refine hK.out _ _ ((hSSr _ _).2 ⟨(fun h => absurd h (by decide)), (fun h => absurd h (by decide)), (fun h => absurd h (by decide)), (fun h => absurd h (by decide)), (fun h => absurd h (by decide)), (fun h => absurd h (by decide)), (fun h => absurd h (by decide)), (fun h => absurd h (by decide)), (fun h => absurd h (by decide)), (fun h => absurd h (by decide))⟩) ?_
      clear hK K
      try simp only [Act.put]
      try simp only [List.setIfInBounds_toArray, List.set_cons_zero, List.set_cons_succ]
      refine reg_callG 10 ?_ (by kernel_rfl) ?_ (fun K hK => ?_)
      rotate_left 1
      · simp only [List.getElem?_toArray, List.getElem?_cons_succ, List.getElem?_cons_zero]; exact rfl
      go_simp
      refine hK.out _ _ ((hSSr _ _).2 ⟨(fun h => absurd h (by decide)), (fun h => absurd h (by decide)), (fun h => absurd h (by decide)), (fun h => absurd h (by decide)), (fun h => absurd h (by decide)), (fun h => absurd h (by decide)), (fun h => absurd h (by decide)), (fun h => absurd h (by decide)), (fun h => absurd h (by decide)), (fun h => absurd h (by decide))⟩) ?_
      clear hK K
      try simp only [Act.put]
      try simp only [List.setIfInBounds_toArray, List.set_cons_zero, List.set_cons_succ]
      refine wpAnyG_done (by kernel_rfl) ?_ _
      refine NoPanic.normal ?_
      clear hSSr SSr
      obtain ⟨hfo, hfm⟩ := HFIN
      have c5 := hfo.box.c1
      have HO := Lib.hid hfo; have HM := Lib.hid (HMM.out.trans ((Mut.of_below hb3 (fun k hk => (HO2.out.row.lt k hk).2)).trans hfm))
      have b0' := hfo.box.c0
      clear hfo hfm hbx4 c4 f4
      go_wp2
      go_ret
      exact ⟨_, rfl, HO.out, HM.out⟩
end Go.Proofs.Ytnabdopnlinklaa
/- mesh's writers: Clone. -/
namespace Go.Proofs.Ytnabdopnlinklaa
open Go.RowKit Go.MagM
theorem infoPt : (Try.prog.info? 26).map (fun i => (i.zero, i.size, i.bytes)) = some (some (.agg #[.int .i64 0, .int .i64 0]), 2, 16) := by kernel_rfl
set_option maxRecDepth 100000 in
set_option maxHeartbeats 16000000 in
theorem ptClone_any (b o n c : Nat) (xs : List Value) (w : World) (h0 : 0 < n) (hn9 : n ≤ 1000000) (hl : xs.length = n * 2) (h1 : ∀ u ∈ xs, u.oneCell' = true) (hc : ∀ j u, xs[j]? = some u → w.cell? ⟨b, o + j, none⟩ = some u) :
    Calls Try.prog 21 #[.slice (some ⟨b, o, none⟩) n c] w fun e w' => ∃ g c', e = .returned (.slice (some ⟨g, 0, none⟩) n c') ∧ w'.ownsRow w.heap.size 26 2 (.slice (some ⟨g, 0, none⟩) n c') n xs ∧ Below w.heap.size w w' := by
  obtain ⟨i0, hi, hz0, hz1, hz2⟩ := info_parts infoPt
  have HI := Lib.hid hi; have HZ0 := Lib.hid hz0; have HZ1 := Lib.hid hz1; have HZ2 := Lib.hid hz2
  clear hi hz0 hz1 hz2
  have heq : ∀ w : World, Sem.run Try.prog (binOp BinOp.eql 22 (Value.slice (some ⟨b, o, none⟩) n c) (Value.slice none 0 0)) w = Result.ok (Value.bool false) w := fun w => by kernel_rfl
  obtain ⟨w1, hw1, pe_0, hb1, hs1⟩ := new_box w (w.heap.size) rfl [] 26
  have hown : w1.ownsRow w.heap.size 26 2 (.slice (some ⟨w.heap.size, 0, none⟩) 0 0) 0 [] := by
    rw [← hw1]
    exact ⟨rfl, .inr ⟨w.heap.size, 0, #[], rfl, Nat.le_refl _, World.alloc_heap_new w _, Nat.le_refl _, Nat.zero_le _, rfl, rfl⟩⟩
  have hcs : ∀ j u, xs[j]? = some u → w1.cell? ((⟨b, o, none⟩ : Addr).add j) = some u := fun j u hu => by
    have h1 := hc j u hu
    rw [addr_add]
    exact (hb1.cell (p := ⟨b, o + j, none⟩) (World.block_lt_of_cell? w _ h1)).trans h1
  obtain ⟨v1, wa, hrun, rown, hgrow, hwh⟩ := run_append_where (P := Try.prog) w1 w.heap.size 22 22 26 i0 (.agg #[.int .i64 0, .int .i64 0]) 2 16 (by kernel_rfl) HI.out HZ0.out HZ1.out HZ2.out rfl (.slice (some ⟨w.heap.size, 0, none⟩) 0 0) 0 [] hown ⟨b, o, none⟩ n c xs h0 hl hcs h1 (by unfold maxLen; omega) (by omega) (by omega)
  rw [Nat.zero_add, List.nil_append] at rown
  have hBa : Below w.heap.size w wa := hb1.grown hgrow (by omega) (fun k hk => by have : w.heap.size = k := (by simpa [Value.ownBlock] using hk); omega)
  obtain ⟨q, hq⟩ : ∃ q, n = q + 1 := ⟨n - 1, by omega⟩
  obtain ⟨g, c', rfl⟩ := ownsRow_succ (hq ▸ rown)
  rw [← hq] at rown hrun
  have HR := Lib.hid rown; have HBA := Lib.hid hBa
  clear hown hcs rown hgrow hwh hBa hc hl h1 pe_0 hb1 hs1 hq
  go_enter Try.func21, Try.ntmps21
  go_wp2_with (refine wpList_append_row rfl _ _ 22 rfl rfl rfl hrun ?_)
  clear hrun
  go_wp2
  go_ret
  exact ⟨g, c', rfl, HR.out, HBA.out⟩
theorem pts_one : ∀ (l : List (Int × Int)) (u : Value), u ∈ ptsCells l → u.oneCell' = true
  | [], u, h => by cases h
  | q :: t, u, h => by
    rw [ptsCells] at h
    rcases List.mem_append.1 h with h | h
    · simp at h; rcases h with rfl | rfl <;> rfl
    · exact pts_one t u h
end Go.Proofs.Ytnabdopnlinklaa
/- mesh's Add. Written by tools/mesh18.py. -/
namespace Go.Proofs.Ytnabdopnlinklaa
open Go.RowKit Go.MagM
set_option maxRecDepth 100000 in
set_option maxHeartbeats 8000000 in
theorem mAdd_any {lo mb pb pc : Nat} {tv : Value} {P : List (Int × Int)} {S : List TriM} (x y : Int) (w : World) (h : MeshO 26 37 w lo mb pb pc tv P S) (hroom : P.length + 1 ≤ 1000000) :
    Calls Try.prog 14 #[.pointer (some ⟨mb, 0, none⟩), .agg #[.int .i64 x, .int .i64 y]] w fun e w' => ∃ pb' pc', e = .returned (.int .i64 (P.length : Int)) ∧ MeshO 26 37 w' lo mb pb' pc' tv (P ++ [(x, y)]) S ∧ (pb' = pb ∨ w.heap.size ≤ pb') ∧ Mut w w' mb (.slice (some ⟨pb, 0, none⟩) P.length pc) (.slice (some ⟨pb', 0, none⟩) (P.length + 1) pc') := by
  obtain ⟨i0, hi, hz0, hz1, hz2⟩ := info_parts infoPt
  have HI := Lib.hid hi; have HZ0 := Lib.hid hz0; have HZ1 := Lib.hid hz1; have HZ2 := Lib.hid hz2
  clear hi hz0 hz1 hz2
  obtain ⟨n, hn⟩ : ∃ n, P.length = n := ⟨_, rfl⟩
  obtain ⟨w1, hw1, px_1, hb1, hs1⟩ := new_box w _ rfl [.int .i64 x, .int .i64 y] 26
  have ho_1 := h.below hb1
  rw [hn] at hroom ⊢
  have ho_0 := ho_1.drew; have px_0 := px_1.drew
  have cm := ho_0.box.c0; have cx := px_0.c0; have cy := px_0.c1
  rw [hn] at cm
  have HN := Lib.hid hn; have H := Lib.hid h; have hbd := hb1.drew'
  clear h ho_1 px_1 hb1 hs1
  go_enter Try.func14, Try.ntmps14
  go_wp2
  obtain ⟨SSq, hSSq⟩ : ∃ S : Array Bool → World → Prop, ∀ l w', S l w' ↔ ((l.getD 7 true = false → w'.cell? ⟨mb, 0, none⟩ = some (.slice (some ⟨pb, 0, none⟩) n pc)) ∧ (l.getD 6 true = false → w'.cell? ⟨w.heap.size, 0, none⟩ = some (.int .i64 x)) ∧ (l.getD 6 true = false → w'.cell? ⟨w.heap.size, 1, none⟩ = some (.int .i64 y))) := ⟨_, fun _ _ => Iff.rfl⟩
  refine wp_region_noPanic ?_
  refine wp_region_G SSq 11 #[false, false, false, false, false, false, false, false, false, false, false] (by kernel_rfl) (by kernel_rfl) (by kernel_rfl) ((hSSq _ _).2 ⟨(fun _ => cm), (fun _ => cx), (fun _ => cy)⟩) (fun hCl hHeld => ?_)
  generalize w1.drew = w2 at *
  refine reg_takeG 0 ?_ ?_ ?_ (by kernel_rfl) (by kernel_rfl) (by kernel_rfl) (fun _ _ _ h => h) ?_ ?_ ?_ hCl hHeld ?_
  rotate_left 2
  · simp only [List.getElem?_toArray, List.getElem?_cons_zero]; exact rfl
  · intro l w'; rw [hSSq, hSSq]; rw [getD_set_ne (i := 0) (j := 7) true (by decide)]; rw [getD_set_ne (i := 0) (j := 6) true (by decide)]
  · rfl
  · intro w' hA; clear hA; go_simp; try with_reducible rfl
  clear hCl hHeld
  intro hCl hHeld
  simp only [List.setIfInBounds_toArray, List.set_cons_zero] at hCl hHeld
  try simp only [Act.put]
  try simp only [List.setIfInBounds_toArray, List.set_cons_zero, List.set_cons_succ]
  refine reg_takeG 1 ?_ ?_ ?_ (by kernel_rfl) (by kernel_rfl) (by kernel_rfl) (fun _ _ _ h => h) ?_ ?_ ?_ hCl hHeld ?_
  rotate_left 2
  · simp only [List.getElem?_toArray, List.getElem?_cons_succ, List.getElem?_cons_zero]; exact rfl
  · intro l w'; rw [hSSq, hSSq]; rw [getD_set_ne (i := 1) (j := 7) true (by decide)]; rw [getD_set_ne (i := 1) (j := 6) true (by decide)]
  · rfl
  · intro w' hA; clear hA; go_simp; try with_reducible rfl
  clear hCl hHeld
  intro hCl hHeld
  simp only [List.setIfInBounds_toArray, List.set_cons_zero, List.set_cons_succ] at hCl hHeld
  try simp only [Act.put]
  try simp only [List.setIfInBounds_toArray, List.set_cons_zero, List.set_cons_succ]
  refine reg_takeG 2 ?_ ?_ ?_ (by kernel_rfl) (by kernel_rfl) (by kernel_rfl) (fun _ _ _ h => h) ?_ ?_ ?_ hCl hHeld ?_
  rotate_left 2
  · simp only [List.getElem?_toArray, List.getElem?_cons_succ, List.getElem?_cons_zero]; exact rfl
  · intro l w'; rw [hSSq, hSSq]; rw [getD_set_ne (i := 2) (j := 7) true (by decide)]; rw [getD_set_ne (i := 2) (j := 6) true (by decide)]
  · rfl
  · intro w' hA; clear hA; go_simp; try with_reducible rfl
  clear hCl hHeld
  intro hCl hHeld
  simp only [List.setIfInBounds_toArray, List.set_cons_zero, List.set_cons_succ] at hCl hHeld
  try simp only [Act.put]
  try simp only [List.setIfInBounds_toArray, List.set_cons_zero, List.set_cons_succ]
  refine reg_takeG 3 ?_ ?_ ?_ (by kernel_rfl) (by kernel_rfl) (by kernel_rfl) (fun _ _ _ h => h) ?_ ?_ ?_ hCl hHeld ?_
  rotate_left 2
  · simp only [List.getElem?_toArray, List.getElem?_cons_succ, List.getElem?_cons_zero]; exact rfl
  · intro l w'; rw [hSSq, hSSq]; rw [getD_set_ne (i := 3) (j := 7) true (by decide)]; rw [getD_set_ne (i := 3) (j := 6) true (by decide)]
  · rfl
  · intro w' hA; clear hA; go_simp; try with_reducible rfl
  clear hCl hHeld
  intro hCl hHeld
  simp only [List.setIfInBounds_toArray, List.set_cons_zero, List.set_cons_succ] at hCl hHeld
  try simp only [Act.put]
  try simp only [List.setIfInBounds_toArray, List.set_cons_zero, List.set_cons_succ]
  refine reg_takeG 4 ?_ ?_ ?_ (by kernel_rfl) (by kernel_rfl) (by kernel_rfl) (fun _ _ _ h => h) ?_ ?_ ?_ hCl hHeld ?_
  rotate_left 2
  · simp only [List.getElem?_toArray, List.getElem?_cons_succ, List.getElem?_cons_zero]; exact rfl
  · intro l w'; rw [hSSq, hSSq]; rw [getD_set_ne (i := 4) (j := 7) true (by decide)]; rw [getD_set_ne (i := 4) (j := 6) true (by decide)]
  · rfl
  · intro w' hA; obtain ⟨l, hl, hi, hSl⟩ := hA; have hSl := (hSSq _ _).1 hSl; obtain ⟨hy0, -, -⟩ := hSl; have hz0 := hy0 (hl.not (t := 7) (by kernel_rfl) hi); go_simp; try with_reducible rfl
  clear hCl hHeld
  intro hCl hHeld
  simp only [List.setIfInBounds_toArray, List.set_cons_zero, List.set_cons_succ] at hCl hHeld
  try simp only [Act.put]
  try simp only [List.setIfInBounds_toArray, List.set_cons_zero, List.set_cons_succ]
  refine reg_takeG 5 ?_ ?_ ?_ (by kernel_rfl) (by kernel_rfl) (by kernel_rfl) (fun _ _ _ h => h) ?_ ?_ ?_ hCl hHeld ?_
  rotate_left 2
  · simp only [List.getElem?_toArray, List.getElem?_cons_succ, List.getElem?_cons_zero]; exact rfl
  · intro l w'; rw [hSSq, hSSq]; rw [getD_set_ne (i := 5) (j := 7) true (by decide)]; rw [getD_set_ne (i := 5) (j := 6) true (by decide)]
  · rfl
  · intro w' hA; obtain ⟨l, hl, hi, hSl⟩ := hA; have hSl := (hSSq _ _).1 hSl; obtain ⟨-, hy1, hy2⟩ := hSl; have hz1 := hy1 (hl.not (t := 6) (by kernel_rfl) hi); have hz2 := hy2 (hl.not (t := 6) (by kernel_rfl) hi); go_simp; try with_reducible rfl
  clear hCl hHeld
  intro hCl hHeld
  simp only [List.setIfInBounds_toArray, List.set_cons_zero, List.set_cons_succ] at hCl hHeld
  try simp only [Act.put]
  try simp only [List.setIfInBounds_toArray, List.set_cons_zero, List.set_cons_succ]
  clear hCl hHeld
  obtain ⟨w3, hw3, pz, hb3, hs3⟩ := new_box w2 _ rfl [.int .i64 x, .int .i64 y] 26
  refine reg_callG 6 ?_ (by kernel_rfl) ?_ (fun K hK => ?_)
  rotate_left 1
  · simp only [List.getElem?_toArray, List.getElem?_cons_succ, List.getElem?_cons_zero]; exact rfl
  go_simp
  try rw [hw3]
  have ho_3 := ho_0.below hb3; have px_3 := px_0.below hb3
  have cm3 := ho_3.box.c0; have cx3 := px_3.c0; have cy3 := px_3.c1
  rw [hn] at cm3
  refine hK.out _ _ ((hSSq _ _).2 ⟨(fun _ => cm3), (fun h => absurd h (by decide)), (fun h => absurd h (by decide))⟩) ?_
  clear hK K
  try simp only [Act.put]
  try simp only [List.setIfInBounds_toArray, List.set_cons_zero, List.set_cons_succ]
  have hpr := ho_3.prow
  rw [hn] at hpr
  obtain ⟨v', w4, hrun, hrow4, hgrow, hwhere⟩ := run_append_where (P := Try.prog) w3 lo 22 22 26 i0 (.agg #[.int .i64 0, .int .i64 0]) 2 16 (by kernel_rfl) HI.out HZ0.out HZ1.out HZ2.out rfl (.slice (some ⟨pb, 0, none⟩) n pc) n _ hpr ⟨w2.heap.size, 0, none⟩ 1 1 [.int .i64 x, .int .i64 y] (by omega) rfl pz.news (by intro u hu; simp at hu; rcases hu with rfl | rfl <;> rfl) (by unfold maxLen; omega) (by omega) (by have := ho_3.low; omega)
  refine reg_callG 7 ?_ (by kernel_rfl) ?_ (fun K hK => ?_)
  rotate_left 1
  · simp only [List.getElem?_toArray, List.getElem?_cons_succ, List.getElem?_cons_zero]; exact rfl
  refine wanted_go rfl ?_
  refine wp_append_row _ _ 22 rfl rfl rfl hrun ?_
  obtain ⟨pb', pc', rfl⟩ := ownsRow_succ hrow4
  have hlow := ho_3.low
  have hbx4 := ho_3.box.grown hgrow (fun e => hlow.2.2.2 (by simpa [Value.ownBlock] using e)) hlow.2.1
  rw [hn] at hbx4
  have hbx4d := hbx4.open2
  refine hK.out _ _ ((hSSq _ _).2 ⟨(fun h => absurd h (by decide)), (fun h => absurd h (by decide)), (fun h => absurd h (by decide))⟩) ?_
  clear hK K
  try simp only [Act.put]
  try simp only [List.setIfInBounds_toArray, List.set_cons_zero, List.set_cons_succ]
  refine reg_callG 8 ?_ (by kernel_rfl) ?_ (fun K hK => ?_)
  rotate_left 1
  · simp only [List.getElem?_toArray, List.getElem?_cons_succ, List.getElem?_cons_zero]; exact rfl
  go_simp
  refine hK.out _ _ ((hSSq _ _).2 ⟨(fun h => absurd h (by decide)), (fun h => absurd h (by decide)), (fun h => absurd h (by decide))⟩) ?_
  clear hK K
  try simp only [Act.put]
  try simp only [List.setIfInBounds_toArray, List.set_cons_zero, List.set_cons_succ]
  refine reg_callG 9 ?_ (by kernel_rfl) ?_ (fun K hK => ?_)
  rotate_left 1
  · simp only [List.getElem?_toArray, List.getElem?_cons_succ, List.getElem?_cons_zero]; exact rfl
  go_simp
  refine hK.out _ _ ((hSSq _ _).2 ⟨(fun h => absurd h (by decide)), (fun h => absurd h (by decide)), (fun h => absurd h (by decide))⟩) ?_
  clear hK K
  try simp only [Act.put]
  try simp only [List.setIfInBounds_toArray, List.set_cons_zero, List.set_cons_succ]
  obtain ⟨z0, z1, z2, z3⟩ := hbx4d
  refine reg_callG 10 ?_ (by kernel_rfl) ?_ (fun K hK => ?_)
  rotate_left 1
  · simp only [List.getElem?_toArray, List.getElem?_cons_succ, List.getElem?_cons_zero]; exact rfl
  go_simp
  have hset := hbx4.set 0 (.slice (some ⟨pb', 0, none⟩) (n + 1) pc')
  refine hK.out _ _ ((hSSq _ _).2 ⟨(fun h => absurd h (by decide)), (fun h => absurd h (by decide)), (fun h => absurd h (by decide))⟩) ?_
  clear hK K
  try simp only [Act.put]
  try simp only [List.setIfInBounds_toArray, List.set_cons_zero, List.set_cons_succ]
  refine wpAnyG_done (by kernel_rfl) ?_ _
  refine NoPanic.normal ?_
  clear hSSq SSq
  have hne' : pb' ≠ mb := by
    rcases hwhere with e | e
    · have : pb' = pb := by simpa [Value.ownBlock] using e
      omega
    · have := e pb' rfl; have := hlow.2.1; omega
  have hpl' := (hrow4.lt pb' rfl)
  have hwh : pb' = pb ∨ w3.heap.size ≤ pb' := by
    rcases hwhere with e | e
    · exact .inl (by simpa [Value.ownBlock] using e)
    · exact .inr (e pb' rfl)
  have hsz1 : w.heap.size ≤ w2.heap.size := hbd.size
  obtain ⟨wz, hwz⟩ : ∃ wz, w4.setCell ⟨mb, 0, none⟩ (.slice (some ⟨pb', 0, none⟩) (n + 1) pc') = wz := ⟨_, rfl⟩
  rw [hwz] at hset
  have hfar : ∀ k, k ≠ mb → wz.heap[k]? = w4.heap[k]? := fun k hk => by rw [← hwz]; exact heap_set_far _ _ _ _ _ hk
  have hzs : wz.heap.size = w4.heap.size := by rw [← hwz]; simp [World.setCell]
  have hap := ho_3.apart
  have hz : MeshO 26 37 wz lo mb pb' pc' tv (P ++ [(x, y)]) S := by
    have hl : (P ++ [(x, y)]).length = n + 1 := by rw [List.length_append, HN.out]; rfl
    refine ⟨by rw [hl]; exact hset, ?_, ?_, ⟨hlow.1, by have := hgrow.size; have := hlow.2.1; omega, by omega, hne'⟩, ⟨hap.1, fun e => ?_⟩, by rw [hl]; exact ⟨hroom, ho_3.short.2⟩⟩
    · rw [hl, ptsCells_app]
      exact owns_same hrow4 (fun k hk => hfar k (by have : k = pb' := (by simpa [Value.ownBlock] using hk.symm); omega))
    · refine owns_same ho_3.row (fun k hk => ?_)
      have h1 : k ≠ mb := fun e => hap.1 (by rw [← e]; exact hk)
      have h2 : k ≠ pb := fun e => hap.2 (by rw [← e]; exact hk)
      rw [hfar k h1]
      exact hgrow.block k (ho_3.row.lt k hk).2 (fun e => h2 (by simpa [Value.ownBlock] using e))
    · rcases hwh with e2 | e2
      · exact hap.2 (by rw [e, e2])
      · have := (ho_3.row.lt _ e).2; omega
  have hm : Mut w wz mb (.slice (some ⟨pb, 0, none⟩) n pc) (.slice (some ⟨pb', 0, none⟩) (n + 1) pc') := by
    have hB3 : Below w.heap.size w w3 := hbd.trans (hb3.mono hsz1)
    refine ⟨?_, ?_, ?_, by have := hgrow.size; have := hB3.size; omega, fun k hk h1 h2 => ⟨?_, fun e => ?_⟩⟩
    · rw [← hwz]; exact hgrow.os.trans hB3.os
    · rw [← hwz]; exact hgrow.tape.trans hB3.tape
    · rw [← hwz]; exact hgrow.output.trans hB3.output
    · rw [hfar k h1, hgrow.block k (by have := hB3.size; omega) (fun e => h2 e.symm)]
      exact hB3.block k hk
    · have e3 : pb' = k := by simpa [Value.ownBlock] using e
      rcases hwh with e2 | e2
      · exact h2 (by rw [← e3, e2]; rfl)
      · have := hB3.size; omega
  have HZ := Lib.hid hz; have HM := Lib.hid hm
  have c0 := hz.box.c0
  have hl : (P ++ [(x, y)]).length = n + 1 := by rw [List.length_append, HN.out]; rfl
  rw [hl] at c0
  have hwh2 := hwh
  have hb3s := hb3.size
  clear hz hm hset hfar hzs hap hwh hwhere hrow4 hgrow hbx4 hl ho_0 ho_3 px_0 px_3 z0 z1 z2 z3 hpr hrun pz hb3 hs3
  go_wp2_with fail
  go_ret
  refine ⟨pb', pc', ?_, HZ.out, by omega, HM.out⟩
  go_num
end Go.Proofs.Ytnabdopnlinklaa
/- mesh's New. -/
namespace Go.MagM
open Go.RowKit
theorem rdV_some {S : List TriM} {t : Nat} {x y z : Int} (h : rdV S t = some (x, y, z)) : ∃ T, S[t]? = some T ∧ T.v0 = x ∧ T.v1 = y ∧ T.v2 = z := by
  unfold rdV at h
  cases hs : S[t]? with
  | none => rw [hs] at h; cases h
  | some T => rw [hs] at h; simp at h; exact ⟨T, rfl, h.1, h.2.1, h.2.2⟩
theorem live_of {S : List TriM} {t : Nat} {x y z : Int} (h : rdV S t = some (x, y, z)) (h0 : 0 ≤ x) : ∃ T, S[t]? = some T ∧ goneB T = false := by
  obtain ⟨T, h1, h2, h3, h4⟩ := rdV_some h
  exact ⟨T, h1, by unfold goneB; exact decide_eq_false (by rw [h2]; omega)⟩
/-- A mesh of one triangle and its ghosts, as so many rounds of New have linked it. -/
def newS (a b c : Int) : Nat → List TriM
  | 0 => [newT a b c, newT c b (-1), newT a c (-1), newT b a (-1)]
  | i + 1 => linkL (linkL (newS a b c i) 0 i (i + 1) 2 false) (i + 1) 0 ((i + 2) % 3 + 1) 1 false
theorem newS_v (a b c : Int) : ∀ i t, rdV (newS a b c i) t = rdV (newS a b c 0) t
  | 0, _ => rfl
  | i + 1, t => by
    show rdV (linkL (linkL (newS a b c i) 0 i (i + 1) 2 false) (i + 1) 0 ((i + 2) % 3 + 1) 1 false) t = _
    rw [linkL_v, linkL_v, newS_v a b c i t]
theorem newS_live {a b c : Nat} (i : Nat) {t : Nat} (ht : t < 4) : ∃ T, (newS a b c i)[t]? = some T ∧ goneB T = false := by
  have h := newS_v (a : Int) b c i t
  obtain rfl | rfl | rfl | rfl : t = 0 ∨ t = 1 ∨ t = 2 ∨ t = 3 := by omega
  · exact live_of (x := a) (y := b) (z := c) (h.trans rfl) (by omega)
  · exact live_of (x := c) (y := b) (z := -1) (h.trans rfl) (by omega)
  · exact live_of (x := a) (y := c) (z := -1) (h.trans rfl) (by omega)
  · exact live_of (x := b) (y := a) (z := -1) (h.trans rfl) (by omega)
theorem newS_mid {a b c : Nat} (i : Nat) {t : Nat} (ht : t < 4) : ∃ T, (linkL (newS a b c i) 0 i (i + 1) 2 false)[t]? = some T ∧ goneB T = false := by
  have h := (linkL_v (newS (a : Int) b c i) 0 i (i + 1) 2 false t).trans (newS_v (a : Int) b c i t)
  obtain rfl | rfl | rfl | rfl : t = 0 ∨ t = 1 ∨ t = 2 ∨ t = 3 := by omega
  · exact live_of (x := a) (y := b) (z := c) (h.trans rfl) (by omega)
  · exact live_of (x := c) (y := b) (z := -1) (h.trans rfl) (by omega)
  · exact live_of (x := a) (y := c) (z := -1) (h.trans rfl) (by omega)
  · exact live_of (x := b) (y := a) (z := -1) (h.trans rfl) (by omega)
/-- What New makes. -/
def newM (a b c : Int) : List TriM := [⟨a, b, c, 1, 2, 3, false, false, false⟩, ⟨c, b, -1, 3, 2, 0, false, false, false⟩, ⟨a, c, -1, 1, 3, 0, false, false, false⟩, ⟨b, a, -1, 2, 1, 0, false, false, false⟩]
theorem newS_end (a b c : Int) : newS a b c 3 = newM a b c := rfl
theorem free_none {S : List TriM} (h : ∀ T, T ∈ S → goneB T = false) : freeK S = none := by
  unfold freeK
  rw [List.findIdx?_eq_none_iff]
  exact h
theorem newT_live (a b : Nat) (c : Int) : goneB (newT a b c) = false := by
  unfold goneB newT; exact decide_eq_false (by simp only []; omega)
end Go.MagM
namespace Go.Proofs.Ytnabdopnlinklaa
open Go.RowKit Go.MagM
theorem mkTri_is {lo mb pb pc : Nat} {tv : Value} {P : List (Int × Int)} {S : List TriM} (a b c r : Int) (S' : List TriM) (w : World) (h : MeshO 26 37 w lo mb pb pc tv P S) (hroom : S.length + 1 ≤ 1000000) (hr : ((makeK S : Nat) : Int) = r) (hS : makeM S a b c = S') :
    Calls Try.prog 23 #[.pointer (some ⟨mb, 0, none⟩), .int .i64 a, .int .i64 b, .int .i64 c] w fun e w' => ∃ tv', e = .returned (.int .i64 r) ∧ MeshO 26 37 w' lo mb pb pc tv' P S' ∧ Mut w w' mb tv tv' := by
  subst hr hS; exact mkTri_any a b c w h hroom
theorem addM {S : List TriM} (h : ∀ T, T ∈ S → goneB T = false) (a b c : Int) : makeK S = S.length ∧ makeM S a b c = S ++ [newT a b c] := by
  unfold makeK makeM; rw [free_none h]; exact ⟨rfl, rfl⟩
set_option maxRecDepth 100000 in
set_option maxHeartbeats 16000000 in
theorem New_no (so : Option Addr) (sb n sc : Nat) (P : List (Int × Int)) (w : World) (hn : P.length = n) (h0 : 0 < n) (hn9 : n ≤ 1000000) (hP : InPs P) (ho : so = some ⟨sb, 0, none⟩) (hc : ∀ j u, (ptsCells P)[j]? = some u → w.cell? ⟨sb, 0 + j, none⟩ = some u) (a b c : Int) (hz : turnM P a b c = 0) :
    Calls Try.prog 8 #[.slice so n sc, .int .i64 a, .int .i64 b, .int .i64 c] w fun e w' => e = .returned (.tuple #[.pointer none, .bool false]) ∧ Below w.heap.size w w' := by
  subst ho
  subst hn
  have hcl := ptClone_any sb 0 P.length sc (ptsCells P) w h0 hn9 (ptsCells_len P) (pts_one P) hc
  have HCL := Lib.hid hcl; have HPS := Lib.hid hP
  clear hcl hP hc
  go_enter Try.func8, Try.ntmps8
  go_wp2_with fail
  refine HCL.out.mono ?_
  rintro e w1 ⟨g, c', rfl, hr1, hb1⟩
  have l1 := hr1.lt g rfl
  obtain ⟨w2, hw2, pm_0, hb2, hs2⟩ := new_box w1 _ rfl [.slice (some ⟨g, 0, none⟩) P.length c', .slice none 0 0] 44
  have hm_0 : MeshO 26 37 w2 w.heap.size w1.heap.size g c' (.slice none 0 0) P [] := ⟨pm_0, owns_blow hr1 hb2, World.ownsRow_nil _ _ _ _, by have := hb1.size; omega, ⟨by simp [Value.ownBlock], by simp [Value.ownBlock]⟩, ⟨hn9, by simp⟩⟩
  have hB_2 := hb1.trans (hb2.mono hb1.size)
  obtain ⟨ta, tc, htv, hrd⟩ := hm_0.read
  have ht := mturn_any a b c w2 hrd HPS.out
  rw [hz] at ht
  have HT := Lib.hid ht
  clear ht hrd hm_0 htv hz hr1
  go_wp2_with fail
  refine HT.out.mono ?_
  rintro e w3 ⟨rfl, hb3⟩
  go_wp2
  go_ret2
  exact ⟨rfl, hB_2.trans (hb3.mono hB_2.size)⟩
set_option maxRecDepth 100000 in
set_option maxHeartbeats 16000000 in
theorem New_yes (so : Option Addr) (sb n sc : Nat) (P : List (Int × Int)) (w : World) (hn : P.length = n) (h0 : 0 < n) (hn9 : n ≤ 1000000) (hP : InPs P) (ho : so = some ⟨sb, 0, none⟩) (hc : ∀ j u, (ptsCells P)[j]? = some u → w.cell? ⟨sb, 0 + j, none⟩ = some u) (a b c : Nat) (hz : turnM P (a : Int) (b : Int) (c : Int) = 1) :
    Calls Try.prog 8 #[.slice so n sc, .int .i64 (a : Int), .int .i64 (b : Int), .int .i64 (c : Int)] w fun e w' => ∃ mb pb pc tv, e = .returned (.tuple #[.pointer (some ⟨mb, 0, none⟩), .bool true]) ∧ MeshO 26 37 w' w.heap.size mb pb pc tv P (newM (a : Int) (b : Int) (c : Int)) ∧ w.heap.size ≤ pb ∧ Below w.heap.size w w' := by
  subst ho
  subst hn
  have hcl := ptClone_any sb 0 P.length sc (ptsCells P) w h0 hn9 (ptsCells_len P) (pts_one P) hc
  have HCL := Lib.hid hcl; have HPS := Lib.hid hP
  clear hcl hP hc
  go_enter Try.func8, Try.ntmps8
  go_wp2_with fail
  refine HCL.out.mono ?_
  rintro e w1 ⟨g, c', rfl, hr1, hb1⟩
  have l1 := hr1.lt g rfl
  obtain ⟨w2, hw2, pm_0, hb2, hs2⟩ := new_box w1 _ rfl [.slice (some ⟨g, 0, none⟩) P.length c', .slice none 0 0] 44
  have hm_0 : MeshO 26 37 w2 w.heap.size w1.heap.size g c' (.slice none 0 0) P [] := ⟨pm_0, owns_blow hr1 hb2, World.ownsRow_nil _ _ _ _, by have := hb1.size; omega, ⟨by simp [Value.ownBlock], by simp [Value.ownBlock]⟩, ⟨hn9, by simp⟩⟩
  have hB_2 := hb1.trans (hb2.mono hb1.size)
  obtain ⟨ta, tc, htv, hrd⟩ := hm_0.read
  have ht := mturn_any (a : Int) (b : Int) (c : Int) w2 hrd HPS.out
  rw [hz] at ht
  have HT := Lib.hid ht
  clear ht hrd htv hz hr1
  go_wp2_with fail
  refine HT.out.mono ?_
  rintro e w3 ⟨rfl, hb3⟩
  have hm_1 := hm_0.below hb3
  have hB_3 := hB_2.trans (hb3.mono hB_2.size)
  clear hm_0
  have k0 := mkTri_is (a : Int) (b : Int) (c : Int) 0 [newT a b c] w3 hm_1 (by simp) rfl rfl
  have K0 := Lib.hid k0; clear k0
  go_wp2_with fail
  refine K0.out.mono ?_
  rintro e w4 ⟨tv1, rfl, hm_2, mu1⟩
  have a1 := addM (S := [newT a b c]) (by intro T hT; simp at hT; subst hT; exact newT_live a b _) (c : Int) (b : Int) (-1)
  have k1 := mkTri_is (c : Int) (b : Int) (-1) 1 [newT a b c, newT c b (-1)] w4 hm_2 (by simp) (by rw [a1.1]; rfl) (by rw [a1.2]; rfl)
  have K1 := Lib.hid k1; clear k1 a1
  go_wp2_with fail
  refine K1.out.mono ?_
  rintro e w5 ⟨tv2, rfl, hm_3, mu2⟩
  have a2 := addM (S := [newT a b c, newT c b (-1)]) (by intro T hT; simp at hT; rcases hT with rfl | rfl <;> exact newT_live _ _ _) (a : Int) (c : Int) (-1)
  have k2 := mkTri_is (a : Int) (c : Int) (-1) 2 [newT a b c, newT c b (-1), newT a c (-1)] w5 hm_3 (by simp) (by rw [a2.1]; rfl) (by rw [a2.2]; rfl)
  have K2 := Lib.hid k2; clear k2 a2
  go_wp2_with fail
  refine K2.out.mono ?_
  rintro e w6 ⟨tv3, rfl, hm_4, mu3⟩
  have a3 := addM (S := [newT a b c, newT c b (-1), newT a c (-1)]) (by intro T hT; simp at hT; rcases hT with rfl | rfl | rfl <;> exact newT_live _ _ _) (b : Int) (a : Int) (-1)
  have k3 := mkTri_is (b : Int) (a : Int) (-1) 3 (newS a b c 0) w6 hm_4 (by simp) (by rw [a3.1]; rfl) (by rw [a3.2]; rfl)
  have K3 := Lib.hid k3; clear k3 a3
  go_wp2_with fail
  refine K3.out.mono ?_
  rintro e w7 ⟨tv4, rfl, hm_5, mu4⟩
  have mu := ((mu1.trans mu2).trans mu3).trans mu4
  have hB_7 : Below w.heap.size w w7 := hB_3.trans (mu.below hB_3.size (by have := hb1.size; omega) (fun k hk => by simp [Value.ownBlock] at hk))
  obtain ⟨w8, hw8, pg_0, hb8, hs8⟩ := new_box w7 _ rfl [.int .i64 1, .int .i64 2, .int .i64 3] 23
  have hm_6 := hm_5.below hb8
  have hB_8 := hB_7.trans (hb8.mono hB_7.size)
  have HM6 := Lib.hid hm_6
  have hg4 : tv4.ownBlock ≠ some w7.heap.size := fun e => by have := (hm_5.row.lt _ e).2; omega
  have hlow := hm_5.low
  have hlow4 := fun k hk => (hm_5.row.lt k hk).1
  obtain ⟨g0, g1, g2, f0, f1, f2⟩ := pg_0.open3
  have HMU := Lib.hid mu; have HB8 := Lib.hid hB_8; have PG := Lib.hid pg_0
  clear hm_1 hm_2 hm_3 hm_4 hm_5 hm_6 mu1 mu2 mu3 mu4 mu hB_7 hB_8 hB_3 hB_2 pg_0
  go_wp2
  clear g0 g1 g2 f0 f1 f2
  go_loopw [13, 14, 49] (fun _ _ iv wr => ∃ i : Nat, i ≤ 3 ∧ iv = .int .i64 i ∧ MeshO 26 37 wr w.heap.size w1.heap.size g c' tv4 P (newS a b c i) ∧ Mut w8 wr w1.heap.size tv4 tv4) (fun _ _ iv _ => 3 - (intOf iv).toNat)
  case atStart => exact ⟨0, by omega, rfl, HM6.out, Mut.refl _ _ _⟩
  case round =>
    obtain ⟨i, hi, rfl, hm, hmu⟩ := hrel
    by_cases hlt : i < 3
    · have hix : ∀ w : World, (Instr.index 23 (.agg #[.int .i64 1, .int .i64 2, .int .i64 3]) (.int .i64 (i : Int))).run Try.prog w = .ok (.int .i64 ((i + 1 : Nat) : Int)) w := by
        intro w; obtain rfl | rfl | rfl : i = 0 ∨ i = 1 ∨ i = 2 := by omega
        all_goals kernel_rfl
      obtain ⟨T1, t1, t1g⟩ := newS_live (a := a) (b := b) (c := c) i (t := 0) (by omega)
      obtain ⟨T2, t2, t2g⟩ := newS_live (a := a) (b := b) (c := c) i (t := i + 1) (by omega)
      obtain ⟨T3, t3, t3g⟩ := newS_mid (a := a) (b := b) (c := c) i (t := i + 1) (by omega)
      obtain ⟨T4, t4, t4g⟩ := newS_mid (a := a) (b := b) (c := c) i (t := (i + 2) % 3 + 1) (by omega)
      have c1 := Link_any 0 i (i + 1) 2 false T1 T2 wr hm t1 t1g hlt t2 t2g (by omega)
      have c2 := fun w' hm' => Link_any (lo := w.heap.size) (mb := w1.heap.size) (pb := g) (pc := c') (tv := tv4) (P := P) (i + 1) 0 ((i + 2) % 3 + 1) 1 false T3 T4 w' hm' t3 t3g (by omega) t4 t4g (by omega)
      obtain ⟨j, hj⟩ : ∃ j, (i + 2) % 3 = j := ⟨_, rfl⟩
      have hj3 : j < 3 := by omega
      have hstep : newS a b c (i + 1) = linkL (linkL (newS a b c i) 0 i (i + 1) 2 false) (i + 1) 0 ((i + 2) % 3 + 1) 1 false := rfl
      rw [hj] at c2 hstep
      have hmod : ((i : Int) + 2).tmod 3 = (j : Int) := by have := mod_two i 3; rw [hj] at this; exact this
      have hwi : IntKind.i64.wrap ((i : Int) + 2) = (i : Int) + 2 := by rw [IntKind.wrap_i64]; omega
      have hcell : w8.cell? ⟨w7.heap.size, j, none⟩ = some (.int .i64 ((j + 1 : Nat) : Int)) := by
        obtain rfl | rfl | rfl : j = 0 ∨ j = 1 ∨ j = 2 := by omega
        · exact PG.out.c0
        · exact PG.out.c1
        · exact PG.out.c2
      have hjb1 : (0 : Int) ≤ (j : Int) := by omega
      have hjb2 : (j : Int) < 3 := by omega
      have C1 := Lib.hid c1; have C2 := Lib.hid c2; have HST := Lib.hid hstep; have HCE := Lib.hid hcell
      have HM := Lib.hid hmu
      clear c1 c2 hstep t1 t1g t2 t2g t3 t3g t4 t4g hm hmu hj hcell
      have e0 : ((0 : Nat) : Int) = 0 := rfl
      go_wp2_with fail
      refine C1.out.mono ?_
      rintro e w9 ⟨rfl, hm9, mu9⟩
      have hcell9 : w9.cell? ⟨w7.heap.size, j, none⟩ = some (.int .i64 ((j + 1 : Nat) : Int)) := by
        have m := HM.out.trans mu9
        have := (m.keep w7.heap.size (by omega) (by have := hlow.2.1; omega) hg4).1
        rw [World.cell?_of_block (w := w8) (a := ⟨w7.heap.size, j, none⟩) this]; exact HCE.out
      go_wp2_with fail
      refine (C2.out _ hm9).mono ?_
      rintro e w10 ⟨rfl, hm10, mu10⟩
      have HMA := Lib.hid hm10
      clear hm9 hcell9 hm10 e0
      go_wp2
      go_roundw
      case rel => exact ⟨i + 1, by omega, by go_num, by rw [HST.out]; exact HMA.out, (HM.out.trans mu9).trans mu10⟩
      case measure => simp [intOf]; omega
    · obtain rfl : i = 3 := by omega
      rw [newS_end] at hm
      have HM := Lib.hid hm; have HMM := Lib.hid hmu
      clear hm hmu
      go_wp2
      go_ret2
      exact ⟨_, _, _, _, rfl, HM.out, by omega, HB8.out.trans (HMM.out.below (HB8.out.size) (by omega) hlow4)⟩
set_option maxRecDepth 100000 in
set_option maxHeartbeats 16000000 in
theorem New_back (so : Option Addr) (sb n sc : Nat) (P : List (Int × Int)) (w : World) (hn : P.length = n) (h0 : 0 < n) (hn9 : n ≤ 1000000) (hP : InPs P) (ho : so = some ⟨sb, 0, none⟩) (hc : ∀ j u, (ptsCells P)[j]? = some u → w.cell? ⟨sb, 0 + j, none⟩ = some u) (a b c : Nat) (hz : turnM P (a : Int) (b : Int) (c : Int) = -1) :
    Calls Try.prog 8 #[.slice so n sc, .int .i64 (a : Int), .int .i64 (b : Int), .int .i64 (c : Int)] w fun e w' => ∃ mb pb pc tv, e = .returned (.tuple #[.pointer (some ⟨mb, 0, none⟩), .bool true]) ∧ MeshO 26 37 w' w.heap.size mb pb pc tv P (newM (a : Int) (c : Int) (b : Int)) ∧ w.heap.size ≤ pb ∧ Below w.heap.size w w' := by
  subst ho
  subst hn
  have hcl := ptClone_any sb 0 P.length sc (ptsCells P) w h0 hn9 (ptsCells_len P) (pts_one P) hc
  have HCL := Lib.hid hcl; have HPS := Lib.hid hP
  clear hcl hP hc
  go_enter Try.func8, Try.ntmps8
  go_wp2_with fail
  refine HCL.out.mono ?_
  rintro e w1 ⟨g, c', rfl, hr1, hb1⟩
  have l1 := hr1.lt g rfl
  obtain ⟨w2, hw2, pm_0, hb2, hs2⟩ := new_box w1 _ rfl [.slice (some ⟨g, 0, none⟩) P.length c', .slice none 0 0] 44
  have hm_0 : MeshO 26 37 w2 w.heap.size w1.heap.size g c' (.slice none 0 0) P [] := ⟨pm_0, owns_blow hr1 hb2, World.ownsRow_nil _ _ _ _, by have := hb1.size; omega, ⟨by simp [Value.ownBlock], by simp [Value.ownBlock]⟩, ⟨hn9, by simp⟩⟩
  have hB_2 := hb1.trans (hb2.mono hb1.size)
  obtain ⟨ta, tc, htv, hrd⟩ := hm_0.read
  have ht := mturn_any (a : Int) (b : Int) (c : Int) w2 hrd HPS.out
  rw [hz] at ht
  have HT := Lib.hid ht
  clear ht hrd htv hz hr1
  go_wp2_with fail
  refine HT.out.mono ?_
  rintro e w3 ⟨rfl, hb3⟩
  have hm_1 := hm_0.below hb3
  have hB_3 := hB_2.trans (hb3.mono hB_2.size)
  clear hm_0
  have k0 := mkTri_is (a : Int) (c : Int) (b : Int) 0 [newT a c b] w3 hm_1 (by simp) rfl rfl
  have K0 := Lib.hid k0; clear k0
  go_wp2_with fail
  refine K0.out.mono ?_
  rintro e w4 ⟨tv1, rfl, hm_2, mu1⟩
  have a1 := addM (S := [newT a c b]) (by intro T hT; simp at hT; subst hT; exact newT_live a c _) (b : Int) (c : Int) (-1)
  have k1 := mkTri_is (b : Int) (c : Int) (-1) 1 [newT a c b, newT b c (-1)] w4 hm_2 (by simp) (by rw [a1.1]; rfl) (by rw [a1.2]; rfl)
  have K1 := Lib.hid k1; clear k1 a1
  go_wp2_with fail
  refine K1.out.mono ?_
  rintro e w5 ⟨tv2, rfl, hm_3, mu2⟩
  have a2 := addM (S := [newT a c b, newT b c (-1)]) (by intro T hT; simp at hT; rcases hT with rfl | rfl <;> exact newT_live _ _ _) (a : Int) (b : Int) (-1)
  have k2 := mkTri_is (a : Int) (b : Int) (-1) 2 [newT a c b, newT b c (-1), newT a b (-1)] w5 hm_3 (by simp) (by rw [a2.1]; rfl) (by rw [a2.2]; rfl)
  have K2 := Lib.hid k2; clear k2 a2
  go_wp2_with fail
  refine K2.out.mono ?_
  rintro e w6 ⟨tv3, rfl, hm_4, mu3⟩
  have a3 := addM (S := [newT a c b, newT b c (-1), newT a b (-1)]) (by intro T hT; simp at hT; rcases hT with rfl | rfl | rfl <;> exact newT_live _ _ _) (c : Int) (a : Int) (-1)
  have k3 := mkTri_is (c : Int) (a : Int) (-1) 3 (newS a c b 0) w6 hm_4 (by simp) (by rw [a3.1]; rfl) (by rw [a3.2]; rfl)
  have K3 := Lib.hid k3; clear k3 a3
  go_wp2_with fail
  refine K3.out.mono ?_
  rintro e w7 ⟨tv4, rfl, hm_5, mu4⟩
  have mu := ((mu1.trans mu2).trans mu3).trans mu4
  have hB_7 : Below w.heap.size w w7 := hB_3.trans (mu.below hB_3.size (by have := hb1.size; omega) (fun k hk => by simp [Value.ownBlock] at hk))
  obtain ⟨w8, hw8, pg_0, hb8, hs8⟩ := new_box w7 _ rfl [.int .i64 1, .int .i64 2, .int .i64 3] 23
  have hm_6 := hm_5.below hb8
  have hB_8 := hB_7.trans (hb8.mono hB_7.size)
  have HM6 := Lib.hid hm_6
  have hg4 : tv4.ownBlock ≠ some w7.heap.size := fun e => by have := (hm_5.row.lt _ e).2; omega
  have hlow := hm_5.low
  have hlow4 := fun k hk => (hm_5.row.lt k hk).1
  obtain ⟨g0, g1, g2, f0, f1, f2⟩ := pg_0.open3
  have HMU := Lib.hid mu; have HB8 := Lib.hid hB_8; have PG := Lib.hid pg_0
  clear hm_1 hm_2 hm_3 hm_4 hm_5 hm_6 mu1 mu2 mu3 mu4 mu hB_7 hB_8 hB_3 hB_2 pg_0
  go_wp2
  clear g0 g1 g2 f0 f1 f2
  go_loopw [13, 14, 49] (fun _ _ iv wr => ∃ i : Nat, i ≤ 3 ∧ iv = .int .i64 i ∧ MeshO 26 37 wr w.heap.size w1.heap.size g c' tv4 P (newS a c b i) ∧ Mut w8 wr w1.heap.size tv4 tv4) (fun _ _ iv _ => 3 - (intOf iv).toNat)
  case atStart => exact ⟨0, by omega, rfl, HM6.out, Mut.refl _ _ _⟩
  case round =>
    obtain ⟨i, hi, rfl, hm, hmu⟩ := hrel
    by_cases hlt : i < 3
    · have hix : ∀ w : World, (Instr.index 23 (.agg #[.int .i64 1, .int .i64 2, .int .i64 3]) (.int .i64 (i : Int))).run Try.prog w = .ok (.int .i64 ((i + 1 : Nat) : Int)) w := by
        intro w; obtain rfl | rfl | rfl : i = 0 ∨ i = 1 ∨ i = 2 := by omega
        all_goals kernel_rfl
      obtain ⟨T1, t1, t1g⟩ := newS_live (a := a) (b := c) (c := b) i (t := 0) (by omega)
      obtain ⟨T2, t2, t2g⟩ := newS_live (a := a) (b := c) (c := b) i (t := i + 1) (by omega)
      obtain ⟨T3, t3, t3g⟩ := newS_mid (a := a) (b := c) (c := b) i (t := i + 1) (by omega)
      obtain ⟨T4, t4, t4g⟩ := newS_mid (a := a) (b := c) (c := b) i (t := (i + 2) % 3 + 1) (by omega)
      have c1 := Link_any 0 i (i + 1) 2 false T1 T2 wr hm t1 t1g hlt t2 t2g (by omega)
      have c2 := fun w' hm' => Link_any (lo := w.heap.size) (mb := w1.heap.size) (pb := g) (pc := c') (tv := tv4) (P := P) (i + 1) 0 ((i + 2) % 3 + 1) 1 false T3 T4 w' hm' t3 t3g (by omega) t4 t4g (by omega)
      obtain ⟨j, hj⟩ : ∃ j, (i + 2) % 3 = j := ⟨_, rfl⟩
      have hj3 : j < 3 := by omega
      have hstep : newS a c b (i + 1) = linkL (linkL (newS a c b i) 0 i (i + 1) 2 false) (i + 1) 0 ((i + 2) % 3 + 1) 1 false := rfl
      rw [hj] at c2 hstep
      have hmod : ((i : Int) + 2).tmod 3 = (j : Int) := by have := mod_two i 3; rw [hj] at this; exact this
      have hwi : IntKind.i64.wrap ((i : Int) + 2) = (i : Int) + 2 := by rw [IntKind.wrap_i64]; omega
      have hcell : w8.cell? ⟨w7.heap.size, j, none⟩ = some (.int .i64 ((j + 1 : Nat) : Int)) := by
        obtain rfl | rfl | rfl : j = 0 ∨ j = 1 ∨ j = 2 := by omega
        · exact PG.out.c0
        · exact PG.out.c1
        · exact PG.out.c2
      have hjb1 : (0 : Int) ≤ (j : Int) := by omega
      have hjb2 : (j : Int) < 3 := by omega
      have C1 := Lib.hid c1; have C2 := Lib.hid c2; have HST := Lib.hid hstep; have HCE := Lib.hid hcell
      have HM := Lib.hid hmu
      clear c1 c2 hstep t1 t1g t2 t2g t3 t3g t4 t4g hm hmu hj hcell
      have e0 : ((0 : Nat) : Int) = 0 := rfl
      go_wp2_with fail
      refine C1.out.mono ?_
      rintro e w9 ⟨rfl, hm9, mu9⟩
      have hcell9 : w9.cell? ⟨w7.heap.size, j, none⟩ = some (.int .i64 ((j + 1 : Nat) : Int)) := by
        have m := HM.out.trans mu9
        have := (m.keep w7.heap.size (by omega) (by have := hlow.2.1; omega) hg4).1
        rw [World.cell?_of_block (w := w8) (a := ⟨w7.heap.size, j, none⟩) this]; exact HCE.out
      go_wp2_with fail
      refine (C2.out _ hm9).mono ?_
      rintro e w10 ⟨rfl, hm10, mu10⟩
      have HMA := Lib.hid hm10
      clear hm9 hcell9 hm10 e0
      go_wp2
      go_roundw
      case rel => exact ⟨i + 1, by omega, by go_num, by rw [HST.out]; exact HMA.out, (HM.out.trans mu9).trans mu10⟩
      case measure => simp [intOf]; omega
    · obtain rfl : i = 3 := by omega
      rw [newS_end] at hm
      have HM := Lib.hid hm; have HMM := Lib.hid hmu
      clear hm hmu
      go_wp2
      go_ret2
      exact ⟨_, _, _, _, rfl, HM.out, by omega, HB8.out.trans (HMM.out.below (HB8.out.size) (by omega) hlow4)⟩
end Go.Proofs.Ytnabdopnlinklaa
/- One triangle and its ghosts are sound; pure. -/
namespace Go.Proofs.Ytnabdopnlinklaa
open Go.RowKit Go.MagM
section
variable {P : List (Int × Int)} {a b c : Nat}
theorem newM_get (a b c : Int) (k : Nat) (T : TriM) (h : (newM a b c)[k]? = some T) : (k = 0 ∧ T = ⟨a, b, c, 1, 2, 3, false, false, false⟩) ∨ (k = 1 ∧ T = ⟨c, b, -1, 3, 2, 0, false, false, false⟩) ∨ (k = 2 ∧ T = ⟨a, c, -1, 1, 3, 0, false, false, false⟩) ∨ (k = 3 ∧ T = ⟨b, a, -1, 2, 1, 0, false, false, false⟩) := by
  match k, h with
  | 0, h => simp [newM] at h; exact .inl ⟨rfl, h.symm⟩
  | 1, h => simp [newM] at h; exact .inr (.inl ⟨rfl, h.symm⟩)
  | 2, h => simp [newM] at h; exact .inr (.inr (.inl ⟨rfl, h.symm⟩))
  | 3, h => simp [newM] at h; exact .inr (.inr (.inr ⟨rfl, h.symm⟩))
  | _ + 4, h => simp [newM] at h
theorem newM_links (hab : a ≠ b) (hbc : b ≠ c) (hac : a ≠ c) (k : Nat) (T : TriM) (h : (newM (a : Int) b c)[k]? = some T) : linkedT (newM (a : Int) b c) k T = true := by
  have e1 : ¬ (a : Int) = b := by omega
  have e2 : ¬ (b : Int) = c := by omega
  have e3 : ¬ (a : Int) = c := by omega
  have f1 : ¬ (b : Int) = a := by omega
  have f2 : ¬ (c : Int) = b := by omega
  have f3 : ¬ (c : Int) = a := by omega
  have m1 : ¬ (a : Int) = -1 := by omega
  have m2 : ¬ (b : Int) = -1 := by omega
  have m3 : ¬ (c : Int) = -1 := by omega
  have n1 : ¬ (-1 : Int) = a := by omega
  have n2 : ¬ (-1 : Int) = b := by omega
  have n3 : ¬ (-1 : Int) = c := by omega
  have g1 : ¬ (a : Int) = -2 := by omega
  have g2 : ¬ (b : Int) = -2 := by omega
  have g3 : ¬ (c : Int) = -2 := by omega
  refine linkedT_yes fun i hi => ?_
  rcases newM_get _ _ _ k T h with ⟨rfl, rfl⟩ | ⟨rfl, rfl⟩ | ⟨rfl, rfl⟩ | ⟨rfl, rfl⟩
  all_goals
    obtain rfl | rfl | rfl : i = 0 ∨ i = 1 ∨ i = 2 := by omega
    all_goals simp [linkI, getT, newM, edgeT, edgeV, goneB, TriM.n, TriM.f, e1, e2, e3, f1, f2, f3, m1, m2, m3, n1, n2, n3, g1, g2, g3]
theorem newM_formed (ha : a < P.length) (hb : b < P.length) (hc : c < P.length) (ht : 0 < crs (ptA P a).1 (ptA P a).2 (ptA P b).1 (ptA P b).2 (ptA P c).1 (ptA P c).2) (k : Nat) (T : TriM) (h : (newM (a : Int) b c)[k]? = some T) : formedT P (newM (a : Int) b c) T = true := by
  have m1 : ¬ (-1 : Int) = a := by omega
  have m2 : ¬ (-1 : Int) = b := by omega
  have m3 : ¬ (-1 : Int) = c := by omega
  have g1 : ¬ (a : Int) = -2 := by omega
  have g2 : ¬ (b : Int) = -2 := by omega
  have g3 : ¬ (c : Int) = -2 := by omega
  have ga : getP P (a : Int) = some (ptA P a) := by unfold getP; rw [if_pos (by omega)]; exact ptA_at ha
  have gb : getP P (b : Int) = some (ptA P b) := by unfold getP; rw [if_pos (by omega)]; exact ptA_at hb
  have gc : getP P (c : Int) = some (ptA P c) := by unfold getP; rw [if_pos (by omega)]; exact ptA_at hc
  have hr : realM (newM (a : Int) b c) 0 = true := by
    have p1 : (0 : Int) ≤ a := by omega
    have p2 : (0 : Int) ≤ b := by omega
    have p3 : (0 : Int) ≤ c := by omega
    simp [realM, getT, newM, realT]
  rcases newM_get _ _ _ k T h with ⟨rfl, rfl⟩ | ⟨rfl, rfl⟩ | ⟨rfl, rfl⟩ | ⟨rfl, rfl⟩
  · have hp : placeT ⟨(a : Int), b, c, 1, 2, 3, false, false, false⟩ (-1) = -1 := by simp [placeT, m1, m2, m3]
    unfold formedT
    rw [if_pos hp]
    have : turnM P (a : Int) b c = 1 := by
      unfold turnM; rw [ga, gb, gc]; exact Int.sign_eq_one_of_pos ht
    simp only [this]; rfl
  all_goals
    unfold formedT
    simp [placeT, m1, m2, m3, hr]
theorem newM_first : firstM (newM (a : Int) b c) (-1) = 1 := by
  have m1 : ¬ (-1 : Int) = a := by omega
  have m2 : ¬ (-1 : Int) = b := by omega
  have m3 : ¬ (-1 : Int) = c := by omega
  have g2 : ¬ (c : Int) = -2 := by omega
  refine firstM_hit (k := 1) (by simp [newM]) ?_ (fun j hj => ?_)
  · simp [placeM, getT, newM, goneB, placeT, m2, m3, g2]
  · obtain rfl : j = 0 := by omega
    simp [placeM, getT, newM, placeT, m1, m2, m3]
theorem newM_walk : walkM (newM (a : Int) b c) (-1) 1 4 1 = [(1, 2), (3, 2), (2, 2)] := by
  have m1 : ¬ (-1 : Int) = a := by omega
  have m2 : ¬ (-1 : Int) = b := by omega
  have m3 : ¬ (-1 : Int) = c := by omega
  have g1 : ¬ (a : Int) = -2 := by omega
  have g2 : ¬ (b : Int) = -2 := by omega
  have g3 : ¬ (c : Int) = -2 := by omega
  have p1 : placeM (newM (a : Int) b c) 1 (-1) = 2 := by simp [placeM, getT, newM, goneB, placeT, m2, m3, g3]
  have p2 : placeM (newM (a : Int) b c) 2 (-1) = 2 := by simp [placeM, getT, newM, goneB, placeT, m1, m3, g1]
  have p3 : placeM (newM (a : Int) b c) 3 (-1) = 2 := by simp [placeM, getT, newM, goneB, placeT, m1, m2, g2]
  have s1 : stepM (newM (a : Int) b c) (-1) 1 = 3 := by simp [stepM, getT, newM, placeT, m2, m3, TriM.n]
  have s2 : stepM (newM (a : Int) b c) (-1) 2 = 1 := by simp [stepM, getT, newM, placeT, m1, m3, TriM.n]
  have s3 : stepM (newM (a : Int) b c) (-1) 3 = 2 := by simp [stepM, getT, newM, placeT, m1, m2, TriM.n]
  simp [walkM, p1, p2, p3, s1, s2, s3]
theorem newM_border : borderM (newM (a : Int) b c) = [(a : Int), b, c] := by
  unfold borderM
  rw [newM_first]
  show (rimZ _ (walkM (newM (a : Int) b c) (-1) 1 4 1)).reverse = _
  rw [newM_walk]
  simp [rimZ, vAt, newM, TriM.v]
theorem newM_convex (_ha : a < P.length) (_hb : b < P.length) (_hc : c < P.length) (ht : 0 < crs (ptA P a).1 (ptA P a).2 (ptA P b).1 (ptA P b).2 (ptA P c).1 (ptA P c).2) : convexM P [a, b, c] = true := by
  have c0 : corC P [a, b, c] 0 = ptA P a := by simp [corC, natA]
  have c1 : corC P [a, b, c] 1 = ptA P b := by simp [corC, natA]
  have c2 : corC P [a, b, c] 2 = ptA P c := by simp [corC, natA]
  have c3 : corC P [a, b, c] 3 = ptA P a := by simp [corC, natA]
  have c4 : corC P [a, b, c] 4 = ptA P b := by simp [corC, natA]
  have t1 : 0 < crs (ptA P b).1 (ptA P b).2 (ptA P c).1 (ptA P c).2 (ptA P a).1 (ptA P a).2 := by rw [crs_cyc]; exact ht
  have t2 : 0 < crs (ptA P c).1 (ptA P c).2 (ptA P a).1 (ptA P a).2 (ptA P b).1 (ptA P b).2 := by rw [crs_cyc]; exact t1
  have hy : ¬ ((ptA P a).2 = (ptA P b).2 ∧ (ptA P b).2 = (ptA P c).2) := by
    rintro ⟨e1, e2⟩
    unfold crs at ht
    rw [e1, e2] at ht
    simp at ht
  have hok : okAll P [a, b, c] = true := by
    unfold okAll
    simp only [List.length_cons, List.length_nil, Nat.zero_add, Nat.reduceAdd]
    rw [List.all_eq_true]
    intro k hk
    have := List.mem_range.1 hk
    obtain rfl | rfl | rfl : k = 0 ∨ k = 1 ∨ k = 2 := by omega
    · rw [c0, c1, c2]; unfold okC; rw [decide_eq_true ht, Bool.true_or]
    · rw [c1, c2, c3]; unfold okC; rw [decide_eq_true t1, Bool.true_or]
    · rw [c2, c3, c4]; unfold okC; rw [decide_eq_true t2, Bool.true_or]
  have hcn : cntC P [a, b, c] 3 = 1 := by
    show ((0 + if riseC (corC P [a, b, c] 0) (corC P [a, b, c] 1) (corC P [a, b, c] 2) = true then 1 else 0) + if riseC (corC P [a, b, c] 1) (corC P [a, b, c] 2) (corC P [a, b, c] 3) = true then 1 else 0) + (if riseC (corC P [a, b, c] 2) (corC P [a, b, c] 3) (corC P [a, b, c] 4) = true then 1 else 0) = 1
    rw [c0, c1, c2, c3, c4]
    unfold riseC
    simp only [decide_eq_true_eq]
    generalize (ptA P a).2 = y0 at *
    generalize (ptA P b).2 = y1 at *
    generalize (ptA P c).2 = y2 at *
    split <;> split <;> split <;> omega
  unfold convexM
  rw [hok, show ([a, b, c] : List Nat).length = 3 from rfl, hcn]; rfl
theorem newM_ghosts : ghN (newM (a : Int) b c) (newM (a : Int) b c).length = 3 := by
  have m1 : ¬ (-1 : Int) = a := by omega
  have m2 : ¬ (-1 : Int) = b := by omega
  have m3 : ¬ (-1 : Int) = c := by omega
  have g1 : ¬ (a : Int) = -2 := by omega
  have g2 : ¬ (b : Int) = -2 := by omega
  have g3 : ¬ (c : Int) = -2 := by omega
  have p0 : placeM (newM (a : Int) b c) 0 (-1) = -1 := by simp [placeM, getT, newM, placeT, m1, m2, m3]
  have p1 : placeM (newM (a : Int) b c) 1 (-1) = 2 := by simp [placeM, getT, newM, goneB, placeT, m2, m3, g3]
  have p2 : placeM (newM (a : Int) b c) 2 (-1) = 2 := by simp [placeM, getT, newM, goneB, placeT, m1, m3, g1]
  have p3 : placeM (newM (a : Int) b c) 3 (-1) = 2 := by simp [placeM, getT, newM, goneB, placeT, m1, m2, g2]
  show ghN (newM (a : Int) b c) 4 = 3
  simp [ghN, p0, p1, p2, p3]
theorem newM_sound (ha : a < P.length) (hb : b < P.length) (hc : c < P.length) (ht : 0 < crs (ptA P a).1 (ptA P a).2 (ptA P b).1 (ptA P b).2 (ptA P c).1 (ptA P c).2) : SoundIs P (newM (a : Int) b c) true := by
  have hab : a ≠ b := by rintro rfl; unfold crs at ht; simp at ht
  have hac : a ≠ c := by rintro rfl; unfold crs at ht; simp at ht
  have hbc : b ≠ c := by
    rintro rfl
    have : crs (ptA P a).1 (ptA P a).2 (ptA P b).1 (ptA P b).2 (ptA P b).1 (ptA P b).2 = 0 := by unfold crs; rw [Int.mul_comm]; omega
    omega
  refine .inr ⟨rfl, fun k T hT => ?_, by rw [newM_border]; simp, by rw [newM_border, newM_ghosts]; rfl, [a, b, c], by rw [newM_border]; rfl, ?_, newM_convex ha hb hc ht⟩
  · unfold okT; rw [newM_formed ha hb hc ht k T hT, newM_links hab hbc hac k T hT]; simp
  · intro v hv; simp at hv; rcases hv with rfl | rfl | rfl <;> assumption
end
end Go.Proofs.Ytnabdopnlinklaa
/- mesh's iterator over all real triangles; the statements' has. -/
namespace Go.MagM
open Go.RowKit
/-- A real triangle, and its number. -/
abbrev RA (S : List TriM) := { x : Nat × TriM // S[x.1]? = some x.2 ∧ realT x.2 = true }
def triV (T : TriM) : Value := .agg #[.int .i64 T.v0, .int .i64 T.v1, .int .i64 T.v2, .int .i64 T.n0, .int .i64 T.n1, .int .i64 T.n2, .bool T.f0, .bool T.f1, .bool T.f2]
def encA {S : List TriM} (x : RA S) : Array Value := #[.int .i64 (x.1.1 : Int), triV x.1.2]
/-- The real ones among the first k. -/
def realsK (S : List TriM) : Nat → List (Nat × TriM)
  | 0 => []
  | k + 1 => realsK S k ++ (match S[k]? with
    | some T => if realT T = true then [(k, T)] else []
    | none => [])
theorem realsK_yes {S : List TriM} {k : Nat} {T : TriM} (h : S[k]? = some T) (hr : realT T = true) : realsK S (k + 1) = realsK S k ++ [(k, T)] := by
  rw [realsK, h]; simp only []; rw [if_pos hr]
theorem realsK_no {S : List TriM} {k : Nat} {T : TriM} (h : S[k]? = some T) (hr : realT T = false) : realsK S (k + 1) = realsK S k := by
  rw [realsK, h]; simp only []; rw [if_neg (by rw [hr]; decide), List.append_nil]
theorem realsK_len (S : List TriM) : ∀ k, (realsK S k).length ≤ k
  | 0 => Nat.le_refl _
  | k + 1 => by
    have := realsK_len S k
    rw [realsK, List.length_append]
    cases S[k]? with
    | none => simp; omega
    | some T => simp only []; split <;> simp <;> omega
theorem realsK_pre (S : List TriM) : ∀ m k, k ≤ m → realsK S k <+: realsK S m
  | 0, k, h => by obtain rfl : k = 0 := by omega
                  exact List.prefix_refl _
  | m + 1, k, h => by
    rcases Nat.lt_or_ge k (m + 1) with g | g
    · exact (realsK_pre S m k (by omega)).trans ⟨_, rfl⟩
    · obtain rfl : k = m + 1 := by omega
      exact List.prefix_refl _
theorem grown_drewN (w : World) (q : Nat) (row : Option Nat) : w.grownBy (w.drewN q) row := ⟨rfl, rfl, rfl, Nat.le_refl _, fun _ _ _ => rfl⟩
end Go.MagM
namespace Go.Proofs.Ytnabdopnlinklaa
open Go.RowKit Go.MagM Go.Shelf
set_option maxRecDepth 100000 in
set_option maxHeartbeats 8000000 in
theorem has_any (T : TriM) (v : Int) (w : World) : Calls Try.prog 12 #[triV T, .int .i64 v] w fun e w' => e = .returned (.int .i64 (placeT T v)) ∧ Below w.heap.size w w' := by
  obtain ⟨v0, v1, v2, n0, n1, n2, f0, f1, f2⟩ := T
  unfold triV
  simp only []
  obtain ⟨w1, hw1, hp, hb1, hs1⟩ := new_box w _ rfl [.int .i64 v0, .int .i64 v1, .int .i64 v2, .int .i64 n0, .int .i64 n1, .int .i64 n2, .bool f0, .bool f1, .bool f2] 37
  have HP := Lib.hid hp; have HB1 := Lib.hid hb1
  clear hp hb1 hs1
  obtain ⟨p, hpl⟩ : ∃ p, placeT ⟨v0, v1, v2, n0, n1, n2, f0, f1, f2⟩ v = p := ⟨_, rfl⟩
  rw [hpl]
  have HPL := Lib.hid hpl
  clear hpl
  go_enter Try.func12, Try.ntmps12
  go_wp2
  go_loopw [5, 6] (fun _ iv wr => ∃ i : Nat, i ≤ 3 ∧ iv = .int .i64 (i : Int) ∧ wr = w1 ∧ (0 < i → v0 ≠ v) ∧ (1 < i → v1 ≠ v) ∧ (2 < i → v2 ≠ v)) (fun _ iv _ => 3 - (intOf iv).toNat)
  case atStart => exact ⟨0, by omega, rfl, rfl, fun h => by omega, fun h => by omega, fun h => by omega⟩
  case round =>
    obtain ⟨i, hi, rfl, rfl, h0, h1, h2⟩ := hrel
    have d0 := HP.out.c 0 _ rfl; have d1 := HP.out.c 1 _ rfl; have d2 := HP.out.c 2 _ rfl
    by_cases hlt : i < 3
    · obtain rfl | rfl | rfl : i = 0 ∨ i = 1 ∨ i = 2 := by omega
      · by_cases e : v0 = v
        · have q : (v0 == v) = true := by simpa using e
          have HE := Lib.hid e
          clear e h0 h1 h2
          go_wp2
          go_ret
          exact ⟨by rw [← HPL.out]; unfold placeT; rw [if_pos HE.out.symm]; rfl, HB1.out⟩
        · have q : (v0 == v) = false := by simpa using e
          have HE := Lib.hid e
          clear e h0 h1 h2
          go_wp2
          exact ⟨⟨1, by omega, by go_num, by first | rfl | trivial, fun _ => HE.out, fun h => by omega, fun h => by omega⟩, by simp [intOf]⟩
      · have e0 := h0 (by omega)
        have HE0 := Lib.hid e0
        by_cases e : v1 = v
        · have q : (v1 == v) = true := by simpa using e
          have HE := Lib.hid e
          clear e e0 h0 h1 h2
          go_wp2
          go_ret
          exact ⟨by rw [← HPL.out]; unfold placeT; rw [if_neg (fun x => HE0.out x.symm), if_pos HE.out.symm]; rfl, HB1.out⟩
        · have q : (v1 == v) = false := by simpa using e
          have HE := Lib.hid e
          clear e e0 h0 h1 h2
          go_wp2
          exact ⟨⟨2, by omega, by go_num, by first | rfl | trivial, fun _ => HE0.out, fun _ => HE.out, fun h => by omega⟩, by simp [intOf]⟩
      · have e0 := h0 (by omega); have e1 := h1 (by omega)
        have HE0 := Lib.hid e0; have HE1 := Lib.hid e1
        by_cases e : v2 = v
        · have q : (v2 == v) = true := by simpa using e
          have HE := Lib.hid e
          clear e e0 e1 h0 h1 h2
          go_wp2
          go_ret
          exact ⟨by rw [← HPL.out]; unfold placeT; rw [if_neg (fun x => HE0.out x.symm), if_neg (fun x => HE1.out x.symm), if_pos HE.out.symm]; rfl, HB1.out⟩
        · have q : (v2 == v) = false := by simpa using e
          have HE := Lib.hid e
          clear e e0 e1 h0 h1 h2
          go_wp2
          exact ⟨⟨3, by omega, by go_num, by first | rfl | trivial, fun _ => HE0.out, fun _ => HE1.out, fun _ => HE.out⟩, by simp [intOf]⟩
    · obtain rfl : i = 3 := by omega
      have e0 := h0 (by omega); have e1 := h1 (by omega); have e2 := h2 (by omega)
      have HE := Lib.hid (And.intro e0 (And.intro e1 e2))
      clear e0 e1 e2 h0 h1 h2
      go_wp2
      go_ret
      exact ⟨by rw [← HPL.out]; unfold placeT; rw [if_neg (fun x => HE.out.1 x.symm), if_neg (fun x => HE.out.2.1 x.symm), if_neg (fun x => HE.out.2.2 x.symm)]; rfl, HB1.out⟩
attribute [local go_sem] Oper.semAt_some
set_option maxRecDepth 100000 in
set_option maxHeartbeats 8000000 in
theorem all1_any (n : Nat) (hn : 1 ≤ n) (l Bm : Nat) (Pb : Nat → Prop) {mb pb pc : Nat} {ta : Option Addr} {tc : Nat} {P : List (Int × Int)} {S : List TriM} (J Jx : List (RA S) → World → Prop)
    (hY : ∀ pre x W, J pre W → pre.length < S.length → YieldAt Fence.wide (n - 1) Try.prog l (encA x) W fun e W' =>
      (e = .returned (.bool true) ∧ J (pre ++ [x]) W' ∧ KeepB Pb W W') ∨ (e = .returned (.bool false) ∧ Jx (pre ++ [x]) W'))
    (hD : ∀ pre W q, J pre W → J pre (W.drewN q))
    (W : World) (hm : MeshR W mb pb pc ta tc P S) (hin : MeshIn Pb mb pb ta) (hBm : W.cell? ⟨Bm, 0, none⟩ = some (.pointer (some ⟨mb, 0, none⟩))) (hPm : Pb Bm) (h0 : J [] W) :
    CallsIn Fence.wide n Try.prog 27 #[.func (.yield l) #[] #[], .pointer (some ⟨Bm, 0, none⟩)] W fun e W' => (∃ v, e = .returned v) ∧
      ((∃ ys : List (RA S), ys.map (·.1) = realsK S S.length ∧ J ys W') ∨ (∃ pre : List (RA S), pre.map (·.1) <+: realsK S S.length ∧ Jx pre W')) := by
  have hF : ∀ k, Fence.wide.fn k := fun _ => trivial
  have hsh := hm.short.2
  obtain ⟨len, hlen⟩ : ∃ len, S.length = len := ⟨_, rfl⟩
  have b0 := hm.box.c0; have b1 := hm.box.c1
  rw [hlen] at b1 hsh
  have HM := Lib.hid hm; have HLEN := Lib.hid hlen; have HD := Lib.hid hD
  clear hm hlen hD
  refine callsIn_of_wp Try.func27 rfl trivial ?_ rfl
  simp only [Try.ntmps27, List.size_toArray, List.length_cons, List.length_nil, Nat.reduceAdd, Nat.reduceSub, Array.replicate_succ, Array.replicate_zero, List.push_toArray, List.append_toArray, List.nil_append, List.cons_append]
  gi_wp2
  clear b0 b1
  gi_loopw [3, 9] (fun _ iv wr => ∃ (i : Nat) (pre : List (RA S)), i ≤ len ∧ iv = .int .i64 i ∧ pre.map (·.1) = realsK S i ∧ J pre wr ∧ KeepB Pb W wr) (fun _ iv _ => len - (intOf iv).toNat)
  case atStart => exact ⟨0, [], Nat.zero_le _, rfl, rfl, h0, KeepB.refl _ _⟩
  case round =>
    obtain ⟨i, pre, hi, rfl, hpre, hJs, hnx⟩ := hrel
    have HPRE := Lib.hid hpre; clear hpre
    by_cases hlt : i < len
    · have hcm : wr.cell? ⟨Bm, 0, none⟩ = some (.pointer (some ⟨mb, 0, none⟩)) := (hnx.cell hPm).trans hBm
      have hm_0 := HM.out.keep hin hnx
      obtain ⟨T, hT⟩ : ∃ T, S[i]? = some T := ⟨_, List.getElem?_eq_getElem (by rw [HLEN.out]; exact hlt)⟩
      have hre := Real_any (i : Int) wr hm_0
      have hrm : realM S (i : Int) = realT T := by unfold realM; rw [getT_nat, hT]
      rw [hrm] at hre
      obtain ⟨r, hr⟩ : ∃ r, realT T = r := ⟨_, rfl⟩
      rw [hr] at hre
      have HRE := Lib.hid hre; have HR := Lib.hid hr; have HT := Lib.hid hT; have HM0 := Lib.hid hm_0
      clear hre hr hT hm_0 hrm
      cases r with
      | false =>
        gi_wp2_with fail
        refine (callsIn_wide.2 HRE.out).mono ?_
        rintro e w' ⟨rfl, q, rfl⟩
        gi_wp2
        go_roundw
        case rel => exact ⟨i + 1, pre, by omega, by go_num, by rw [realsK_no HT.out HR.out]; exact HPRE.out, HD.out _ _ _ hJs, hnx.drew q⟩
        case measure => simp [intOf]; omega
      | true =>
        obtain ⟨x, hx⟩ : ∃ x : RA S, x.1 = (i, T) := ⟨⟨(i, T), HT.out, HR.out⟩, rfl⟩
        have hpl : pre.length < S.length := by
          have h1 := congrArg List.length HPRE.out
          have h2 := realsK_len S i
          rw [List.length_map] at h1
          rw [HLEN.out]; omega
        have hyy := fun q => hY pre x (wr.drewN q) (HD.out _ _ _ hJs) hpl
        have HYY := Lib.hid hyy; have HX := Lib.hid hx; have HNX := Lib.hid hnx; have HCM := Lib.hid hcm
        clear hyy hx hnx
        gi_wp2_with fail
        refine (callsIn_wide.2 HRE.out).mono ?_
        rintro e w' ⟨rfl, q, rfl⟩
        have hm_1 := HM0.out.drewN q
        obtain ⟨tb, hta, -, ht9⟩ := hm_1.tris.get HT.out
        subst hta
        have e0 := hm_1.box.c0; have e1 := hm_1.box.c1
        rw [HLEN.out] at e1
        have hcm1 : (wr.drewN q).cell? ⟨Bm, 0, none⟩ = some (.pointer (some ⟨mb, 0, none⟩)) := HCM.out
        obtain ⟨c0, c1, c2, c3, c4, c5, c6, c7, c8⟩ := ht9
        have hb1 : (0 : Int) ≤ (i : Int) := by omega
        have hb2 : (i : Int) < (len : Int) := by omega
        obtain ⟨fn, tmps, assign, body, hy, hR⟩ := HYY.out q
        unfold encA triV at hy
        rw [HX.out] at hy
        dsimp only at hy
        have hkk : KeepB Pb W (wr.drewN q) := HNX.out.drew q
        have HKK := Lib.hid hkk
        clear hm_1 hkk hcm
        obtain ⟨wd, hwd⟩ : ∃ wd, wr.drewN q = wd := ⟨_, rfl⟩
        rw [hwd] at e0 e1 hcm1 c0 c1 c2 c3 c4 c5 c6 c7 c8 hy hR HKK
        rw [hwd]
        clear hwd
        gi_wp2
        refine hR.mono ?_
        rintro e W3 (⟨rfl, hJ3, hk3'⟩ | ⟨rfl, hJx3⟩)
        · have hkk := HKK.out
          gi_wp2
          go_roundw
          case rel => exact ⟨i + 1, pre ++ [x], by omega, by go_num, by rw [realsK_yes HT.out HR.out, List.map_append, HPRE.out, List.map_cons, List.map_nil, HX.out], hJ3, hkk.trans hk3'⟩
          case measure => simp [intOf]; omega
        · gi_wp2
          refine bodyPost_ret (results_none rfl _ _ _) rfl ?_
          refine ⟨⟨_, rfl⟩, .inr ⟨pre ++ [x], ?_, hJx3⟩⟩
          rw [List.map_append, HPRE.out, List.map_cons, List.map_nil, HX.out, ← realsK_yes HT.out HR.out]
          exact realsK_pre S _ _ (by rw [HLEN.out]; omega)
    · obtain rfl : i = len := by omega
      gi_wp2
      go_end0
      exact ⟨⟨_, rfl⟩, .inl ⟨pre, by rw [HPRE.out, HLEN.out], hJs⟩⟩
end Go.Proofs.Ytnabdopnlinklaa
