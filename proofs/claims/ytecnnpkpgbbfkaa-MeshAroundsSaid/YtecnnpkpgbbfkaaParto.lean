/- A region that draws its order, in a round of a loop over a function: by the laws for regions elsewhere. Over any program. -/
import Derived.Test.YtecnnpkpgbbfkaaPartm
import Derived.Test.YtecnnpkpgbbfkaaPartk
import Derived.RangeFuncCalls
import Derived.OwnWalkIn
import Derived.OrdersIn
import Derived.Deep.RegionHeld3
import Derived.Test.YtecnnpkpgbbfkaaPartn
import Derived.StillTailTactics
import Derived.Test.YtecnnpkpgbbfkaaPartl
import Derived.Test.YtecnnpkpgbbfkaaPartj
import Derived.BigQuiet
import Derived.Deep.QuietTactic
namespace Go.MagM
open Go
section
variable {P : Program} {l n : Nat} {md : Region.Mode} {ops : Array Oper} {Q : Exit → Act → World → Prop}
/-- No operation is a defer statement. -/
def noDefers (ops : Array Oper) : Bool := ops.all fun o => match o.op with
  | .defer _ => false
  | _ => true
theorem noDefers_at {i : Nat} {o : Oper} (h : noDefers ops = true) (ho : ops[i]? = some o) : ∀ c, o.op ≠ .defer c := by
  intro c e
  unfold noDefers at h
  rw [Array.all_eq_true_iff_forall_mem] at h
  have := h o (Array.mem_of_getElem? ho)
  rw [e] at this
  cases this
/-- Q where the region has run to its end; nothing else comes. -/
def OnlyN (Q : Exit → Act → World → Prop) : Exit → Act → World → Prop
  | .normal, a, w => Q .normal a w
  | _, _, _ => False
theorem OnlyN.normal {a : Act} {w : World} (h : Q .normal a w) : OnlyN Q .normal a w := h
theorem onlyN_out {P : Prop} (h : LetsOut (OnlyN Q)) : P := by
  obtain ⟨a, w, h⟩ := h
  exact (h : False).elim
theorem wpOp_round {i : Nat} {K K' : Act → World → Prop} {a : Act} {w : World} (hd : noDefers ops = true) (hK : ∀ a w, K a w → K' a w) (h : wpOp P ops (OnlyN Q) i K a w) : wpOpIn (Fence.wide.inRound l) n P ops Q i K' a w := by
  unfold wpOp at h
  unfold wpOpIn
  cases ho : ops[i]? with
  | none => rw [ho] at h; exact hK _ _ h
  | some o =>
    rw [ho] at h
    simp only [] at h ⊢
    split at h
    · rename_i hw
      rw [if_pos hw]
      rcases h with h | ⟨_, h⟩
      · refine ⟨fun _ _ => trivial, ?_⟩
        rw [Oper.semAt_eq _ _ _ (noDefers_at hd ho)]
        unfold Oper.wp at h
        generalize (execOp a.eval o).run P w = r at h
        cases r with
        | ok x w' =>
          cases x with
          | value v => exact hK _ _ h
          | skip => exact hK _ _ h
          | defer d => exact hK _ _ h
          | enter f args =>
            refine ⟨(fun h => by cases h), ?_⟩
            refine (CallsIn.inRound l (callsIn_wide.2 h)).mono fun e w'' he => ?_
            cases e with
            | returned v => exact hK _ _ he
            | panicked c => exact he.elim
            | outgrown => exact onlyN_out he
          | row row args => exact ⟨(fun h => by cases h), fun c cs _ => let ⟨v, w2, r, s⟩ := h c cs; ⟨v, w2, hK _ _ r, stepsIn_wide.2 s⟩⟩
          | _ => exact (h : False).elim
        | halt x w' =>
          cases x <;> exact (h : False).elim
      · exact onlyN_out h
    · rename_i hw
      rw [if_neg hw]
      exact ⟨fun _ _ => trivial, hK _ _ h⟩
theorem wpAny_round (hd : noDefers ops = true) : ∀ (fuel : Nat) (listed : Array Bool) (a : Act) (w : World), wpAny P md ops (OnlyN Q) fuel listed a w → wpAnyIn (Fence.wide.inRound l) n P md ops Q fuel listed a w
  | 0, _, _, _, h => h
  | fuel + 1, _, _, _, h => ⟨h.1, fun i hi => wpOp_round hd (fun a w k => wpAny_round hd fuel _ a w k) (h.2 i hi)⟩
theorem rnd_region_any {id : Nat} {a : Act} {w : World} (hm : P.follows .mixedOrders = true) (hd : noDefers ops = true)
    (h : wpAny P .any ops (OnlyN Q) ops.size (Array.replicate ops.size false) a w.drew) : (Code.region id ops true).wpIn (Fence.wide.inRound l) n P Q a w :=
  wpIn_region_any hm (wpAny_round hd _ _ _ _ h)
theorem rnd_region_G {id : Nat} {a : Act} {w : World} (S : Array Bool → World → Prop) (k : Nat) (ls : Array Bool) (hm : P.follows .mixedOrders = true) (hd : noDefers ops = true) (hn : ops.size = k) (hl : Array.replicate ops.size false = ls) (hS : S ls w.drew)
    (h : Cl .any ops ls → S ls w.drew → wpAnyG P .any ops (OnlyN Q) S k ls a w.drew) : (Code.region id ops true).wpIn (Fence.wide.inRound l) n P Q a w := by
  subst hl hn
  exact rnd_region_any hm hd (wpAny_of_G _ _ _ _ (h Cl.start hS))
theorem rnd_region_held {S : World → Prop} {id : Nat} {a : Act} {w : World} (hm : P.follows .mixedOrders = true) (hd : noDefers ops = true) (hS : S w.drew)
    (h : S w.drew → wpAnyH P .any ops (OnlyN Q) S ops.size (Array.replicate ops.size false) a w.drew) : (Code.region id ops true).wpIn (Fence.wide.inRound l) n P Q a w :=
  rnd_region_any hm hd (wpAny_of_held _ _ _ _ (h hS))
end
end Go.MagM
/- mesh's readers: round, border. -/
namespace Go.MagM
open Go.RowKit
theorem owns_turned {w w' : World} {base g : Nat} {e : TypeId} {size : Nat} {v : Value} {n : Nat} {xs : List Value} (h : w.ownsRow base e size v n xs) (ht : Turned w w' g) (hne : v.ownBlock ≠ some g) : w'.ownsRow base e size v n xs := by
  refine ⟨h.1, ?_⟩
  rcases h.2 with hn | ⟨g', cap, cur, rfl, h2, h3, h4⟩
  · exact .inl hn
  · exact .inr ⟨g', cap, cur, rfl, h2, (ht.block g' (fun e => hne (by rw [e]; rfl))).trans h3, h4⟩
theorem owns_blow {w w' : World} {base : Nat} {e : TypeId} {size : Nat} {v : Value} {n : Nat} {xs : List Value} (h : w.ownsRow base e size v n xs) (hb : Below w.heap.size w w') : w'.ownsRow base e size v n xs := by
  refine ⟨h.1, ?_⟩
  rcases h.2 with hn | ⟨g, cap, cur, hv, hg, hc, r⟩
  · exact .inl hn
  · exact .inr ⟨g, cap, cur, hv, hg, by rw [hb.block g (Array.getElem?_eq_some_iff.1 hc).1]; exact hc, r⟩
/-- A row of one cell an element, as a box. -/
theorem owns_box {w : World} {base g : Nat} {e : TypeId} {size n c : Nat} {xs : List Value} (h : w.ownsRow base e size (.slice (some ⟨g, 0, none⟩) n c) n xs) : Box w g xs := by
  rcases h.2 with ⟨h0, _⟩ | ⟨g', cap, cur, hv, hb, hg, h4, h5, h6, h7⟩
  · cases h0
  · simp only [Value.slice.injEq, Option.some.injEq] at hv
    obtain ⟨hv, -, -⟩ := hv
    injection hv with hv
    subst hv
    refine ⟨fun i u hi => ?_, fun i u hi => ?_⟩
    · have := h.cells (g := g) rfl i u hi
      rwa [addr_add, Nat.zero_add] at this
    · unfold World.frozen?; rw [hg]; simp
/-- The point of triangle t at place k. -/
def vAt (S : List TriM) (t k : Nat) : Int := match S[t]? with
  | some T => T.v k
  | none => 0
/-- The points that come behind those that are gone round. -/
def rimZ (S : List TriM) (l : List (Nat × Nat)) : List Int := l.map fun x => vAt S x.1 ((x.2 + 1) % 3)
def intCells (l : List Int) : List Value := l.map fun z => .int .i64 z
theorem walkM_len (S : List TriM) (v first : Int) : ∀ n t, (walkM S v first n t).length ≤ n
  | 0, _ => Nat.le_refl _
  | n + 1, t => by
    unfold walkM
    split
    · simp
    · split
      · simp
      · have := walkM_len S v first n (stepM S v t)
        rw [List.length_cons]; omega
def borderM (S : List TriM) : List Int := (rimZ S (walkM S (-1) (firstM S (-1)) S.length (firstM S (-1)))).reverse
theorem owns_mono {w : World} {base b' : Nat} {e : TypeId} {size : Nat} {v : Value} {n : Nat} {xs : List Value} (h : w.ownsRow base e size v n xs) (hb : b' ≤ base) : w.ownsRow b' e size v n xs := by
  refine ⟨h.1, ?_⟩
  rcases h.2 with hn | ⟨g, cap, cur, hv, hg, r⟩
  · exact .inl hn
  · exact .inr ⟨g, cap, cur, hv, by omega, r⟩
theorem heap_set_far (w : World) (g i b : Nat) (v : Value) (h : b ≠ g) : (w.setCell ⟨g, i, none⟩ v).heap[b]? = w.heap[b]? := by
  simp only [World.setCell, Array.getElem?_modify]
  rw [if_neg (Ne.symm h)]
theorem five_boxes (w : World) (v0 v1 v2 v3 v4 : Value) (t0 t1 t2 t3 t4 : TypeId) :
    Boxed (((((w.alloc (.cells #[v0] t0)).alloc (.cells #[v1] t1)).alloc (.cells #[v2] t2)).alloc (.cells #[v3] t3)).alloc (.cells #[v4] t4)) w.heap.size t0 v0 ∧
    Boxed (((((w.alloc (.cells #[v0] t0)).alloc (.cells #[v1] t1)).alloc (.cells #[v2] t2)).alloc (.cells #[v3] t3)).alloc (.cells #[v4] t4)) (w.heap.size + 1) t1 v1 ∧
    Boxed (((((w.alloc (.cells #[v0] t0)).alloc (.cells #[v1] t1)).alloc (.cells #[v2] t2)).alloc (.cells #[v3] t3)).alloc (.cells #[v4] t4)) (w.heap.size + 1 + 1) t2 v2 ∧
    Boxed (((((w.alloc (.cells #[v0] t0)).alloc (.cells #[v1] t1)).alloc (.cells #[v2] t2)).alloc (.cells #[v3] t3)).alloc (.cells #[v4] t4)) (w.heap.size + 1 + 1 + 1) t3 v3 ∧
    Boxed (((((w.alloc (.cells #[v0] t0)).alloc (.cells #[v1] t1)).alloc (.cells #[v2] t2)).alloc (.cells #[v3] t3)).alloc (.cells #[v4] t4)) (w.heap.size + 1 + 1 + 1 + 1) t4 v4 ∧
    (((((w.alloc (.cells #[v0] t0)).alloc (.cells #[v1] t1)).alloc (.cells #[v2] t2)).alloc (.cells #[v3] t3)).alloc (.cells #[v4] t4)).heap.size = w.heap.size + 5 ∧
    Below w.heap.size w (((((w.alloc (.cells #[v0] t0)).alloc (.cells #[v1] t1)).alloc (.cells #[v2] t2)).alloc (.cells #[v3] t3)).alloc (.cells #[v4] t4)) := by
  have n0 := Boxed.new w t0 v0
  have n1 := Boxed.new (w.alloc (.cells #[v0] t0)) t1 v1
  have n2 := Boxed.new ((w.alloc (.cells #[v0] t0)).alloc (.cells #[v1] t1)) t2 v2
  have n3 := Boxed.new (((w.alloc (.cells #[v0] t0)).alloc (.cells #[v1] t1)).alloc (.cells #[v2] t2)) t3 v3
  have n4 := Boxed.new ((((w.alloc (.cells #[v0] t0)).alloc (.cells #[v1] t1)).alloc (.cells #[v2] t2)).alloc (.cells #[v3] t3)) t4 v4
  simp only [World.size_alloc] at n1 n2 n3 n4
  refine ⟨(((n0.alloc _).alloc _).alloc _).alloc _, ((n1.alloc _).alloc _).alloc _, (n2.alloc _).alloc _, n3.alloc _, n4, by simp only [World.size_alloc], ?_⟩
  exact (((((Below.refl _ w).alloc (Nat.le_refl _) _).alloc (by simp) _).alloc (by simp; omega) _).alloc (by simp; omega) _).alloc (by simp; omega) _
theorem keepB_own {β : Type} {Pb : Nat → Prop} {W0 : World} (hP : ∀ b, Pb b → b < W0.heap.size) : OwnFrom W0.heap.size (fun (_ : β) W => KeepB Pb W0 W) := by
  intro s X Y row hs hg hr b hb
  have h1 := hs b hb
  have h2 := hP b hb
  have h3 : X.heap[b]? = some W0.heap[b] := h1.trans (Array.getElem?_eq_getElem h2)
  refine (hg.block b (Array.getElem?_eq_some_iff.1 h3).1 (fun e => ?_)).trans h1
  have := (hr b e.symm).1
  omega
end Go.MagM
namespace Go.Proofs.Ytecnnpkpgbbfkaa
open Go.RowKit Go.MagM Go.Shelf
attribute [local go_sem] Oper.semAt_some
theorem round_stops_first (n : Nat) (hn : 1 ≤ n) (Bb Bv Bm : Nat) (Pb : Nat → Prop) {mb pb pc : Nat} {ta : Option Addr} {tc : Nat} {P : List (Int × Int)} {S : List TriM} (v : Int) (w : World) (hm : MeshR w mb pb pc ta tc P S) (hin : MeshIn Pb mb pb ta) (hBb : w.cell? ⟨Bb, 0, none⟩ = some (.func (.func 34) #[.pointer (some ⟨mb, 0, none⟩)] #[])) (hBv : w.cell? ⟨Bv, 0, none⟩ = some (.int .i64 v)) (hBm : w.cell? ⟨Bm, 0, none⟩ = some (.pointer (some ⟨mb, 0, none⟩))) (_hPb : Pb Bb) (hPv : Pb Bv) (hPm : Pb Bm) (_hP : ∀ b, Pb b → b < w.heap.size) :
    SeqStopsK Fence.wide n Try.prog 50 #[.pointer (some ⟨Bb, 0, none⟩), .pointer (some ⟨Bv, 0, none⟩), .pointer (some ⟨Bm, 0, none⟩)] encR (KeepB Pb) (fun ys : List (RB S) => ys.map (·.1) = walkM S v (firstM S v) S.length (firstM S v)) (fun pre : List (RB S) => pre.map (·.1) <+: walkM S v (firstM S v) S.length (firstM S v)) S.length w := fun l J Jx W hW _ _ hY h0 =>
  round1_first n hn l Bb Bv Bm Pb v J Jx hY W (hm.below hW) hin ((hW.cell (p := ⟨Bb, 0, none⟩) (World.block_lt_of_cell? w _ hBb)).trans hBb) ((hW.cell (p := ⟨Bv, 0, none⟩) (World.block_lt_of_cell? w _ hBv)).trans hBv) ((hW.cell (p := ⟨Bm, 0, none⟩) (World.block_lt_of_cell? w _ hBm)).trans hBm) hPv hPm h0
set_option maxHeartbeats 1000000 in
theorem round_any (p fv : Value) (v : Int) (mb g : Nat) (w : World) (hp : p = .pointer (some ⟨mb, 0, none⟩)) (hf : fv = .func (.func g) #[.pointer (some ⟨mb, 0, none⟩)] #[]) :
    Calls Try.prog 33 #[p, .int .i64 v, fv] w fun e w' => e = .returned (.func (.func 50) #[] #[.pointer (some ⟨w.heap.size + 1 + 1, 0, none⟩), .pointer (some ⟨w.heap.size + 1, 0, none⟩), .pointer (some ⟨w.heap.size, 0, none⟩)]) ∧ w' = ((w.alloc (.cells #[p] 25)).alloc (.cells #[.int .i64 v] 3)).alloc (.cells #[fv] 57) := by
  subst hp hf
  go_enter Try.func33, Try.ntmps33
  go_wp2
  go_ret
  exact ⟨rfl, rfl⟩
theorem infoI : (Try.prog.info? 3).map (fun i => (i.zero, i.size, i.bytes)) = some (some (.int .i64 0), 1, 8) := by kernel_rfl
set_option maxRecDepth 100000 in
set_option maxHeartbeats 16000000 in
theorem border_room {mb pb pc : Nat} {ta : Option Addr} {tc : Nat} {P : List (Int × Int)} {S : List TriM} (w : World) (h : MeshR w mb pb pc ta tc P S) (hP0 : P ≠ []) (hne : borderM S ≠ []) :
    Calls Try.prog 23 #[.pointer (some ⟨mb, 0, none⟩)] w fun e w' => ∃ g c, e = .returned (.slice (some ⟨g, 0, none⟩) (borderM S).length c) ∧ (borderM S).length ≤ c ∧ Box w' g (intCells (borderM S)) ∧ w.heap.size ≤ g ∧ g < w'.heap.size ∧ Below w.heap.size w w' := by
  obtain ⟨i0, hi, hz0, hz1, hz2⟩ := info_parts infoI
  have HI := Lib.hid hi; have HZ0 := Lib.hid hz0; have HZ1 := Lib.hid hz1; have HZ2 := Lib.hid hz2
  clear hi hz0 hz1 hz2
  have hsh := h.short.2
  have hlm := h.lt
  have H := Lib.hid h; have HNE := Lib.hid hne
  have hlp : pb < w.heap.size := by
    cases P with
    | nil => exact absurd rfl hP0
    | cons p l => exact World.block_lt_of_cell? w _ (h.pts 0 p.1 p.2 rfl).1
  have hlt : ∀ b, ta = some ⟨b, 0, none⟩ → b < w.heap.size := by
    intro b hb
    cases S with
    | nil => exact absurd rfl hne
    | cons p l =>
      obtain ⟨b', e, hl, _⟩ := h.tris.get (i := 0) (T := p) rfl
      rw [hb] at e; simp at e; subst e; exact hl
  clear h hne hP0
  refine (callsIn_wide (n := 20)).1 (callsIn_of_wp_marks (F := Fence.wide) (n := 20) Try.func23 rfl trivial ?_ rfl)
  simp only [Try.ntmps23, List.size_toArray, List.length_cons, List.length_nil, Nat.reduceAdd, Nat.reduceSub, Array.replicate_succ, Array.replicate_zero, List.push_toArray, List.append_toArray, List.nil_append, List.cons_append]
  rw [wpIn_wide]
  go_wp2_with (go_at_call 33; refine (round_any _ _ _ mb 34 _ rfl rfl).mono ?_; rintro e w1 ⟨rfl, rfl⟩)
  rw [← wpIn_wide (n := 20)]
  obtain ⟨x0, x1, x2, x3, x4, hs0, hB0⟩ := five_boxes w (.pointer (some ⟨mb, 0, none⟩)) (.slice none 0 0) (.pointer (some ⟨mb, 0, none⟩)) (.int .i64 (-1)) (.func (.func 34) #[.pointer (some ⟨mb, 0, none⟩)] #[]) 25 38 25 3 57
  generalize hW0 : ((((w.alloc (.cells #[.pointer (some ⟨mb, 0, none⟩)] 25)).alloc (.cells #[.slice none 0 0] 38)).alloc (.cells #[.pointer (some ⟨mb, 0, none⟩)] 25)).alloc (.cells #[.int .i64 (-1)] 3)).alloc (.cells #[.func (.func 34) #[.pointer (some ⟨mb, 0, none⟩)] #[]] 57) = W0 at *
  clear hW0
  have hm0 := H.out.below hB0
  have hin : MeshIn (fun b => b ≠ w.heap.size + 1 ∧ b < w.heap.size + 5) mb pb ta := ⟨by omega, by omega, fun b hb => by have := hlt b hb; omega⟩
  have H0 := Lib.hid hm0; clear hm0
  refine wpIn_rangeFunc_ownG rfl (by omega) (gf := 50) (lb := #[.pointer (some ⟨w.heap.size + 1 + 1 + 1 + 1, 0, none⟩), .pointer (some ⟨w.heap.size + 1 + 1 + 1, 0, none⟩), .pointer (some ⟨w.heap.size + 1 + 1, 0, none⟩)]) rfl trivial (enters_of Try.func50 (by kernel_rfl) rfl)
    (round_stops_first 19 (by omega) _ _ _ (fun b => b ≠ w.heap.size + 1 ∧ b < w.heap.size + 5) (-1) W0 H0.out hin x4.cell x3.cell x2.cell (by omega) (by omega) (by omega) (fun b hb => by omega)) (fun h k => KeepB.trans h k) ?Kb (Below.refl _ _) (fun _ => rfl)
    (fun pre W => (∃ v, Boxed W (w.heap.size + 1) 38 v ∧ W.ownsRow (w.heap.size + 5) 3 1 v pre.length (intCells (rimZ S (pre.map (·.1)))) ∧ True) ∧ KeepB (fun b => b ≠ w.heap.size + 1 ∧ b < w.heap.size + 5) W0 W ∧ Below w.heap.size w W)
    (fun _ _ _ => False) ?own (fun _ _ _ _ _ hs _ _ => hs) ?start
    (fun x => { tmps := #[.pointer (some ⟨mb, 0, none⟩), .pointer (some ⟨w.heap.size, 0, none⟩), .slice none 0 0, .pointer (some ⟨w.heap.size + 1, 0, none⟩), .int .i64 (x.1.1 : Int), .int .i64 (x.1.2 : Int), .pointer (some ⟨mb, 0, none⟩), .pointer (some ⟨mb, 0, none⟩), .func (.func 34) #[.pointer (some ⟨mb, 0, none⟩)] #[], .func (.func 50) #[] #[.pointer (some ⟨w.heap.size + 1 + 1 + 1 + 1, 0, none⟩), .pointer (some ⟨w.heap.size + 1 + 1 + 1, 0, none⟩), .pointer (some ⟨w.heap.size + 1 + 1, 0, none⟩)], .int .i64 (x.1.1 : Int), .int .i64 (x.1.2 : Int), undef, undef, undef, undef, undef, undef, undef, undef, undef, undef, undef, undef, undef, undef, undef, undef, undef, undef], defers := [] }) ?assign ?body ?done ?stop
  case Kb =>
    intro W l o o' hl h _ _ b hb
    have : b ≠ l := by omega
    exact World.putObj_heap_other (fun e => this e)
  case own => exact OwnFrom.and (Own.from (holdsRow_own _ _ _ _ _ _ _ (fun _ _ => True)) _) (OwnFrom.and (keepB_own (fun b hb => by omega)) (ownFrom_below (Nat.le_refl _) (by omega)))
  case start => exact ⟨⟨_, x1, World.ownsRow_nil _ _ _ _, trivial⟩, KeepB.refl _ _, hB0⟩
  case assign =>
    intro l x W K hK
    dsimp only [encR]
    gi_wp2
    exact hK
  case body =>
    rintro l pre ⟨⟨m, k⟩, hm, hk⟩ W ⟨⟨v, hv, hrow, -⟩, hKB, hB⟩ hlen
    simp only [] at hm hk
    have hmW := H0.out.keep hin hKB
    obtain ⟨T, hT⟩ : ∃ T, S[m]? = some T := ⟨_, List.getElem?_eq_getElem hm⟩
    obtain ⟨tb, hta, htl, ht9⟩ := hmW.tris.get hT
    subst hta
    obtain ⟨k1, hk1⟩ : ∃ k1, (k + 1) % 3 = k1 := ⟨_, rfl⟩
    have hk13 : k1 < 3 := by omega
    obtain ⟨y, hy⟩ : ∃ y, T.v k1 = y := ⟨_, rfl⟩
    have hvat : vAt S m ((k + 1) % 3) = y := by unfold vAt; rw [hT, hk1]; exact hy
    have cy : W.drew.cell? ⟨tb, m * 9 + k1, none⟩ = some (.int .i64 y) := by rw [← hy]; exact ht9.v hk13
    have hv0 : Boxed W (w.heap.size) 25 (.pointer (some ⟨mb, 0, none⟩)) := (hKB w.heap.size (by omega)).trans x0
    have cm : W.drew.cell? ⟨w.heap.size, 0, none⟩ = some (.pointer (some ⟨mb, 0, none⟩)) := hv0.cell
    have co : W.drew.cell? ⟨w.heap.size + 1, 0, none⟩ = some v := hv.cell
    obtain ⟨len, hlen'⟩ : ∃ len, S.length = len := ⟨_, rfl⟩
    have ct : W.drew.cell? ⟨mb, 1, none⟩ = some (.slice (some ⟨tb, 0, none⟩) len tc) := by rw [← hlen']; exact hmW.box.c1
    rw [hlen'] at hm hlen hsh
    have hmod : ((k : Int) + 1).tmod 3 = (k1 : Int) := by have := mod_one k 3; rw [hk1] at this; exact this
    have hwk : IntKind.i64.wrap ((k : Int) + 1) = (k : Int) + 1 := by rw [IntKind.wrap_i64]; omega
    have hb1 : (0 : Int) ≤ (m : Int) := by omega
    have hb2 : (m : Int) < (len : Int) := by omega
    have hb3' : (0 : Int) ≤ (k1 : Int) := by omega
    have hb4' : (k1 : Int) < 3 := by omega
    have htbl : tb < w.heap.size := hlt tb rfl
    have HBB : Hid (Below w.heap.size w W.drew) := Lib.hid hB.drew'
    have HROW : Hid (W.drew.ownsRow (w.heap.size + 5) 3 1 v pre.length (intCells (rimZ S (pre.map (·.1))))) := Lib.hid hrow
    have HVB : Hid (Boxed W.drew (w.heap.size + 1) 38 v) := Lib.hid hv
    have HKB := Lib.hid hKB; have HB := Lib.hid hB; have HVAT := Lib.hid hvat; have HS5 : w.heap.size + 5 ≤ W.drew.heap.size := by
      have := (hKB (w.heap.size + 4) (by omega)).trans x4
      have := (Array.getElem?_eq_some_iff.1 this).1
      show w.heap.size + 5 ≤ W.heap.size
      omega
    have hWd : KeepsOthers W W.drew := KeepsOthers.drew W
    have HWK : Hid (∀ b : Nat, W.drew.heap[b]? = W.heap[b]?) := Lib.hid (fun _ => rfl)
    have HWK' := Lib.hid hWd; have HLN := Lib.hid hlen'
    have HWB : Hid (Below w.heap.size W W.drew) := Lib.hid ((Below.refl _ _).drew')
    clear hmW hT ht9 hy hvat hv0 hrow hv hKB hB hlen' hk1 x0 x1 x2 x3 x4 hWd
    gi_wp2
    obtain ⟨SSq, hSSq⟩ : ∃ S : Array Bool → World → Prop, ∀ l w', S l w' ↔ ((l.getD 14 true = false → w'.cell? ⟨w.heap.size + 1, 0, none⟩ = some (v)) ∧ (l.getD 15 true = false → w'.cell? ⟨w.heap.size, 0, none⟩ = some (.pointer (some ⟨mb, 0, none⟩))) ∧ (l.getD 15 true = false → w'.cell? ⟨mb, 1, none⟩ = some (.slice (some ⟨tb, 0, none⟩) len tc)) ∧ (l.getD 13 true = false → w'.cell? ⟨tb, m * 9 + k1, none⟩ = some (.int .i64 y))) := ⟨_, fun _ _ => Iff.rfl⟩
    refine rnd_region_G SSq 16 #[false, false, false, false, false, false, false, false, false, false, false, false, false, false, false, false] (by kernel_rfl) (by kernel_rfl) (by kernel_rfl) (by kernel_rfl) ((hSSq _ _).2 ⟨(fun _ => co), (fun _ => cm), (fun _ => ct), (fun _ => cy)⟩) (fun hCl hHeld => ?_)
    generalize W.drew = w2 at *
    refine reg_takeG 0 ?_ ?_ ?_ (by kernel_rfl) (by kernel_rfl) (by kernel_rfl) (fun _ _ _ h => h) ?_ ?_ ?_ hCl hHeld ?_
    rotate_left 2
    · simp only [List.getElem?_toArray, List.getElem?_cons_zero]; exact rfl
    · intro l w'; rw [hSSq, hSSq]; rw [getD_set_ne (i := 0) (j := 14) true (by decide)]; rw [getD_set_ne (i := 0) (j := 15) true (by decide)]; rw [getD_set_ne (i := 0) (j := 13) true (by decide)]
    · rfl
    · intro w' hA; obtain ⟨l, hl, hi, hSl⟩ := hA; have hSl := (hSSq _ _).1 hSl; obtain ⟨hy0, hy1, hy2, -⟩ := hSl; have hz0 := hy0 (hl.not (t := 14) (by kernel_rfl) hi); have hz1 := hy1 (hl.not (t := 15) (by kernel_rfl) hi); have hz2 := hy2 (hl.not (t := 15) (by kernel_rfl) hi); go_simp; try with_reducible rfl
    clear hCl hHeld
    intro hCl hHeld
    simp only [List.setIfInBounds_toArray, List.set_cons_zero] at hCl hHeld
    try simp only [Act.put]
    try simp only [List.setIfInBounds_toArray, List.set_cons_zero, List.set_cons_succ]
    refine reg_takeG 1 ?_ ?_ ?_ (by kernel_rfl) (by kernel_rfl) (by kernel_rfl) (fun _ _ _ h => h) ?_ ?_ ?_ hCl hHeld ?_
    rotate_left 2
    · simp only [List.getElem?_toArray, List.getElem?_cons_succ, List.getElem?_cons_zero]; exact rfl
    · intro l w'; rw [hSSq, hSSq]; rw [getD_set_ne (i := 1) (j := 14) true (by decide)]; rw [getD_set_ne (i := 1) (j := 15) true (by decide)]; rw [getD_set_ne (i := 1) (j := 13) true (by decide)]
    · rfl
    · intro w' hA; obtain ⟨l, hl, hi, hSl⟩ := hA; have hSl := (hSSq _ _).1 hSl; obtain ⟨-, hy1, hy2, -⟩ := hSl; have hz1 := hy1 (hl.not (t := 15) (by kernel_rfl) hi); have hz2 := hy2 (hl.not (t := 15) (by kernel_rfl) hi); go_simp; try with_reducible rfl
    clear hCl hHeld
    intro hCl hHeld
    simp only [List.setIfInBounds_toArray, List.set_cons_zero, List.set_cons_succ] at hCl hHeld
    try simp only [Act.put]
    try simp only [List.setIfInBounds_toArray, List.set_cons_zero, List.set_cons_succ]
    refine reg_takeG 2 ?_ ?_ ?_ (by kernel_rfl) (by kernel_rfl) (by kernel_rfl) (fun _ _ _ h => h) ?_ ?_ ?_ hCl hHeld ?_
    rotate_left 2
    · simp only [List.getElem?_toArray, List.getElem?_cons_succ, List.getElem?_cons_zero]; exact rfl
    · intro l w'; rw [hSSq, hSSq]; rw [getD_set_ne (i := 2) (j := 14) true (by decide)]; rw [getD_set_ne (i := 2) (j := 15) true (by decide)]; rw [getD_set_ne (i := 2) (j := 13) true (by decide)]
    · rfl
    · intro w' hA; clear hA; go_simp; try with_reducible rfl
    clear hCl hHeld
    intro hCl hHeld
    simp only [List.setIfInBounds_toArray, List.set_cons_zero, List.set_cons_succ] at hCl hHeld
    try simp only [Act.put]
    try simp only [List.setIfInBounds_toArray, List.set_cons_zero, List.set_cons_succ]
    refine reg_takeG 3 ?_ ?_ ?_ (by kernel_rfl) (by kernel_rfl) (by kernel_rfl) (fun _ _ _ h => h) ?_ ?_ ?_ hCl hHeld ?_
    rotate_left 2
    · simp only [List.getElem?_toArray, List.getElem?_cons_succ, List.getElem?_cons_zero]; exact rfl
    · intro l w'; rw [hSSq, hSSq]; rw [getD_set_ne (i := 3) (j := 14) true (by decide)]; rw [getD_set_ne (i := 3) (j := 15) true (by decide)]; rw [getD_set_ne (i := 3) (j := 13) true (by decide)]
    · rfl
    · intro w' hA; clear hA; go_simp; try with_reducible rfl
    clear hCl hHeld
    intro hCl hHeld
    simp only [List.setIfInBounds_toArray, List.set_cons_zero, List.set_cons_succ] at hCl hHeld
    try simp only [Act.put]
    try simp only [List.setIfInBounds_toArray, List.set_cons_zero, List.set_cons_succ]
    refine reg_takeG 4 ?_ ?_ ?_ (by kernel_rfl) (by kernel_rfl) (by kernel_rfl) (fun _ _ _ h => h) ?_ ?_ ?_ hCl hHeld ?_
    rotate_left 2
    · simp only [List.getElem?_toArray, List.getElem?_cons_succ, List.getElem?_cons_zero]; exact rfl
    · intro l w'; rw [hSSq, hSSq]; rw [getD_set_ne (i := 4) (j := 14) true (by decide)]; rw [getD_set_ne (i := 4) (j := 15) true (by decide)]; rw [getD_set_ne (i := 4) (j := 13) true (by decide)]
    · rfl
    · intro w' hA; obtain ⟨l, hl, hi, hSl⟩ := hA; have hSl := (hSSq _ _).1 hSl; obtain ⟨-, hy1, hy2, -⟩ := hSl; have hz1 := hy1 (hl.not (t := 15) (by kernel_rfl) hi); have hz2 := hy2 (hl.not (t := 15) (by kernel_rfl) hi); go_simp; try with_reducible rfl
    clear hCl hHeld
    intro hCl hHeld
    simp only [List.setIfInBounds_toArray, List.set_cons_zero, List.set_cons_succ] at hCl hHeld
    try simp only [Act.put]
    try simp only [List.setIfInBounds_toArray, List.set_cons_zero, List.set_cons_succ]
    refine reg_takeG 5 ?_ ?_ ?_ (by kernel_rfl) (by kernel_rfl) (by kernel_rfl) (fun _ _ _ h => h) ?_ ?_ ?_ hCl hHeld ?_
    rotate_left 2
    · simp only [List.getElem?_toArray, List.getElem?_cons_succ, List.getElem?_cons_zero]; exact rfl
    · intro l w'; rw [hSSq, hSSq]; rw [getD_set_ne (i := 5) (j := 14) true (by decide)]; rw [getD_set_ne (i := 5) (j := 15) true (by decide)]; rw [getD_set_ne (i := 5) (j := 13) true (by decide)]
    · rfl
    · intro w' hA; clear hA; go_simp; try with_reducible rfl
    clear hCl hHeld
    intro hCl hHeld
    simp only [List.setIfInBounds_toArray, List.set_cons_zero, List.set_cons_succ] at hCl hHeld
    try simp only [Act.put]
    try simp only [List.setIfInBounds_toArray, List.set_cons_zero, List.set_cons_succ]
    refine reg_takeG 6 ?_ ?_ ?_ (by kernel_rfl) (by kernel_rfl) (by kernel_rfl) (fun _ _ _ h => h) ?_ ?_ ?_ hCl hHeld ?_
    rotate_left 2
    · simp only [List.getElem?_toArray, List.getElem?_cons_succ, List.getElem?_cons_zero]; exact rfl
    · intro l w'; rw [hSSq, hSSq]; rw [getD_set_ne (i := 6) (j := 14) true (by decide)]; rw [getD_set_ne (i := 6) (j := 15) true (by decide)]; rw [getD_set_ne (i := 6) (j := 13) true (by decide)]
    · rfl
    · intro w' hA; clear hA; go_simp; try with_reducible rfl
    clear hCl hHeld
    intro hCl hHeld
    simp only [List.setIfInBounds_toArray, List.set_cons_zero, List.set_cons_succ] at hCl hHeld
    try simp only [Act.put]
    try simp only [List.setIfInBounds_toArray, List.set_cons_zero, List.set_cons_succ]
    refine reg_takeG 7 ?_ ?_ ?_ (by kernel_rfl) (by kernel_rfl) (by kernel_rfl) (fun _ _ _ h => h) ?_ ?_ ?_ hCl hHeld ?_
    rotate_left 2
    · simp only [List.getElem?_toArray, List.getElem?_cons_succ, List.getElem?_cons_zero]; exact rfl
    · intro l w'; rw [hSSq, hSSq]; rw [getD_set_ne (i := 7) (j := 14) true (by decide)]; rw [getD_set_ne (i := 7) (j := 15) true (by decide)]; rw [getD_set_ne (i := 7) (j := 13) true (by decide)]
    · rfl
    · intro w' hA; clear hA; go_simp; try with_reducible rfl
    clear hCl hHeld
    intro hCl hHeld
    simp only [List.setIfInBounds_toArray, List.set_cons_zero, List.set_cons_succ] at hCl hHeld
    try simp only [Act.put]
    try simp only [List.setIfInBounds_toArray, List.set_cons_zero, List.set_cons_succ]
    refine reg_takeG 8 ?_ ?_ ?_ (by kernel_rfl) (by kernel_rfl) (by kernel_rfl) (fun _ _ _ h => h) ?_ ?_ ?_ hCl hHeld ?_
    rotate_left 2
    · simp only [List.getElem?_toArray, List.getElem?_cons_succ, List.getElem?_cons_zero]; exact rfl
    · intro l w'; rw [hSSq, hSSq]; rw [getD_set_ne (i := 8) (j := 14) true (by decide)]; rw [getD_set_ne (i := 8) (j := 15) true (by decide)]; rw [getD_set_ne (i := 8) (j := 13) true (by decide)]
    · rfl
    · intro w' hA; clear hA; go_simp; try with_reducible rfl
    clear hCl hHeld
    intro hCl hHeld
    simp only [List.setIfInBounds_toArray, List.set_cons_zero, List.set_cons_succ] at hCl hHeld
    try simp only [Act.put]
    try simp only [List.setIfInBounds_toArray, List.set_cons_zero, List.set_cons_succ]
    refine reg_takeG 9 ?_ ?_ ?_ (by kernel_rfl) (by kernel_rfl) (by kernel_rfl) (fun _ _ _ h => h) ?_ ?_ ?_ hCl hHeld ?_
    rotate_left 2
    · simp only [List.getElem?_toArray, List.getElem?_cons_succ, List.getElem?_cons_zero]; exact rfl
    · intro l w'; rw [hSSq, hSSq]; rw [getD_set_ne (i := 9) (j := 14) true (by decide)]; rw [getD_set_ne (i := 9) (j := 15) true (by decide)]; rw [getD_set_ne (i := 9) (j := 13) true (by decide)]
    · rfl
    · intro w' hA; clear hA; go_simp; try with_reducible rfl
    clear hCl hHeld
    intro hCl hHeld
    simp only [List.setIfInBounds_toArray, List.set_cons_zero, List.set_cons_succ] at hCl hHeld
    try simp only [Act.put]
    try simp only [List.setIfInBounds_toArray, List.set_cons_zero, List.set_cons_succ]
    refine reg_takeG 10 ?_ ?_ ?_ (by kernel_rfl) (by kernel_rfl) (by kernel_rfl) (fun _ _ _ h => h) ?_ ?_ ?_ hCl hHeld ?_
    rotate_left 2
    · simp only [List.getElem?_toArray, List.getElem?_cons_succ, List.getElem?_cons_zero]; exact rfl
    · intro l w'; rw [hSSq, hSSq]; rw [getD_set_ne (i := 10) (j := 14) true (by decide)]; rw [getD_set_ne (i := 10) (j := 15) true (by decide)]; rw [getD_set_ne (i := 10) (j := 13) true (by decide)]
    · rfl
    · intro w' hA; clear hA; go_simp; try with_reducible rfl
    clear hCl hHeld
    intro hCl hHeld
    simp only [List.setIfInBounds_toArray, List.set_cons_zero, List.set_cons_succ] at hCl hHeld
    try simp only [Act.put]
    try simp only [List.setIfInBounds_toArray, List.set_cons_zero, List.set_cons_succ]
    refine reg_takeG 11 ?_ ?_ ?_ (by kernel_rfl) (by kernel_rfl) (by kernel_rfl) (fun _ _ _ h => h) ?_ ?_ ?_ hCl hHeld ?_
    rotate_left 2
    · simp only [List.getElem?_toArray, List.getElem?_cons_succ, List.getElem?_cons_zero]; exact rfl
    · intro l w'; rw [hSSq, hSSq]; rw [getD_set_ne (i := 11) (j := 14) true (by decide)]; rw [getD_set_ne (i := 11) (j := 15) true (by decide)]; rw [getD_set_ne (i := 11) (j := 13) true (by decide)]
    · rfl
    · intro w' hA; clear hA; go_simp; try with_reducible rfl
    clear hCl hHeld
    intro hCl hHeld
    simp only [List.setIfInBounds_toArray, List.set_cons_zero, List.set_cons_succ] at hCl hHeld
    try simp only [Act.put]
    try simp only [List.setIfInBounds_toArray, List.set_cons_zero, List.set_cons_succ]
    refine reg_takeG 12 ?_ ?_ ?_ (by kernel_rfl) (by kernel_rfl) (by kernel_rfl) (fun _ _ _ h => h) ?_ ?_ ?_ hCl hHeld ?_
    rotate_left 2
    · simp only [List.getElem?_toArray, List.getElem?_cons_succ, List.getElem?_cons_zero]; exact rfl
    · intro l w'; rw [hSSq, hSSq]; rw [getD_set_ne (i := 12) (j := 14) true (by decide)]; rw [getD_set_ne (i := 12) (j := 15) true (by decide)]; rw [getD_set_ne (i := 12) (j := 13) true (by decide)]
    · rfl
    · intro w' hA; obtain ⟨l, hl, hi, hSl⟩ := hA; have hSl := (hSSq _ _).1 hSl; obtain ⟨-, hy1, hy2, hy3⟩ := hSl; have hz1 := hy1 (hl.not (t := 15) (by kernel_rfl) hi); have hz2 := hy2 (hl.not (t := 15) (by kernel_rfl) hi); have hz3 := hy3 (hl.not (t := 13) (by kernel_rfl) hi); go_simp; try with_reducible rfl
    clear hCl hHeld
    intro hCl hHeld
    simp only [List.setIfInBounds_toArray, List.set_cons_zero, List.set_cons_succ] at hCl hHeld
    try simp only [Act.put]
    try simp only [List.setIfInBounds_toArray, List.set_cons_zero, List.set_cons_succ]
    clear hCl hHeld
    obtain ⟨w3, hw3, pq_0, hb3, hs3⟩ := new_box w2 _ rfl [.int .i64 y] 3
    refine reg_callG 13 ?_ (by kernel_rfl) ?_ (fun K hK => ?_)
    rotate_left 1
    · simp only [List.getElem?_toArray, List.getElem?_cons_succ, List.getElem?_cons_zero]; exact rfl
    go_simp
    try rw [hw3]
    have do_ := (hb3.cell (p := ⟨w.heap.size + 1, 0, none⟩) (World.block_lt_of_cell? w2 _ co)).trans co
    have dm := (hb3.cell (p := ⟨w.heap.size, 0, none⟩) (World.block_lt_of_cell? w2 _ cm)).trans cm
    have dt := (hb3.cell (p := ⟨mb, 1, none⟩) (World.block_lt_of_cell? w2 _ ct)).trans ct
    refine hK.out _ _ ((hSSq _ _).2 ⟨(fun _ => do_), (fun _ => dm), (fun _ => dt), (fun h => absurd h (by decide))⟩) ?_
    clear hK K
    try simp only [Act.put]
    try simp only [List.setIfInBounds_toArray, List.set_cons_zero, List.set_cons_succ]
    have hrow3 : w3.ownsRow (w.heap.size + 5) 3 1 v pre.length (intCells (rimZ S (pre.map (·.1)))) := owns_blow HROW.out hb3
    obtain ⟨v', w4, hrun, hrow4, hgrow, -⟩ := run_append_own (P := Try.prog) w3 (w.heap.size + 5) 38 38 3 i0 (.int .i64 0) 1 8 (by kernel_rfl) HI.out HZ0.out HZ1.out HZ2.out rfl (by omega) v pre.length _ hrow3 ⟨w2.heap.size, 0, none⟩ 1 1 [.int .i64 y] rfl pq_0.news (by intro u hu; simp at hu; subst hu; rfl) (by unfold maxLen; omega) (by omega) (by have := HBB.out.size; omega)
    refine reg_callG 14 ?_ (by kernel_rfl) ?_ (fun K hK => ?_)
    rotate_left 1
    · simp only [List.getElem?_toArray, List.getElem?_cons_succ, List.getElem?_cons_zero]; exact rfl
    refine wanted_go rfl ?_
    refine wp_append_row _ _ 38 rfl rfl rfl hrun ?_
    obtain ⟨g', cap', rfl⟩ := ownsRow_succ hrow4
    have hgrow' : (w2.alloc (.cells #[.int .i64 y] 3)).grownBy w4 v.ownBlock := by rw [hw3]; exact hgrow
    have hvl := hrow3.lt
    have em := hgrow.cell dm (fun e => by have := (hvl _ e.symm).1; simp only [] at this; omega)
    have et := hgrow.cell dt (fun e => by have := (hvl _ e.symm).1; simp only [] at this; omega)
    obtain ⟨hv4, hv5, hr5, hk5, hb5⟩ := HVB.out.appended (by decide) (owns_mono HROW.out (show w.heap.size + 1 ≤ w.heap.size + 5 by omega)) (by have := HBB.out.size; omega) (Nat.le_refl _) (owns_mono hrow4 (show w.heap.size + 1 ≤ w.heap.size + 5 by omega)) hgrow'
    refine hK.out _ _ ((hSSq _ _).2 ⟨(fun h => absurd h (by decide)), (fun _ => em), (fun _ => et), (fun h => absurd h (by decide))⟩) ?_
    clear hK K
    try simp only [Act.put]
    try simp only [List.setIfInBounds_toArray, List.set_cons_zero, List.set_cons_succ]
    have c4 := hv4.cell; have f4 := hv4.frozen
    refine reg_callG 15 ?_ (by kernel_rfl) ?_ (fun K hK => ?_)
    rotate_left 1
    · simp only [List.getElem?_toArray, List.getElem?_cons_succ, List.getElem?_cons_zero]; exact rfl
    go_simp
    refine hK.out _ _ ((hSSq _ _).2 ⟨(fun h => absurd h (by decide)), (fun h => absurd h (by decide)), (fun h => absurd h (by decide)), (fun h => absurd h (by decide))⟩) ?_
    clear hK K
    try simp only [Act.put]
    try simp only [List.setIfInBounds_toArray, List.set_cons_zero, List.set_cons_succ]
    refine wpAnyG_done (by kernel_rfl) ?_ _
    refine OnlyN.normal ?_
    clear hSSq SSq
    have HKO := (HWK'.out.trans hk5).from W0.heap.size
    have hKP : KeepB (fun b => b ≠ w.heap.size + 1 ∧ b < w.heap.size + 5) W (w4.setCell ⟨w.heap.size + 1, 0, none⟩ (.slice (some ⟨g', 0, none⟩) (pre.length + 1) cap')) := by
      intro b hb
      rw [heap_set_far _ _ _ _ _ hb.1, hgrow.block b (by have := hb3.size; omega) (fun e => by have := (hvl _ e.symm).1; omega), hb3.block b (by omega)]
      exact HWK.out b
    refine ⟨HKO, hKP, ⟨⟨_, hv5, ?_, trivial⟩, HKB.out.trans hKP, HB.out.trans ((Below.trans (Below.refl _ _) ?_))⟩⟩
    · have e1 : (pre ++ [(⟨(m, k), by rw [HLN.out]; exact hm, hk⟩ : RB S)]).length = pre.length + 1 := by simp
      have e2 : intCells (rimZ S ((pre ++ [(⟨(m, k), by rw [HLN.out]; exact hm, hk⟩ : RB S)]).map (·.1))) = intCells (rimZ S (pre.map (·.1))) ++ [.int .i64 y] := by
        simp [rimZ, intCells, HVAT.out]
      rw [e1, e2]
      exact hrow4.kept (grownBy_setCell' w4 (w.heap.size + 1) _) (.inr (hv4.not_row (by decide) hrow4).symm)
    · exact HWB.out.trans (hb5.mono (by omega))
  case done =>
    rintro D ys W hD hS ⟨⟨v, hv, hrow, -⟩, hKB, hB⟩ hK
    have hbm : borderM S = (rimZ S (ys.map (·.1))).reverse := by unfold borderM; rw [hS]
    obtain ⟨zs, hzs⟩ : ∃ zs, rimZ S (ys.map (·.1)) = zs := ⟨_, rfl⟩
    rw [hzs] at hrow hbm
    have hzl : zs.length = ys.length := by rw [← hzs]; simp [rimZ]
    have hyl : ys.length ≠ 0 := by
      intro e
      apply HNE.out
      have hz0 : zs = [] := List.eq_nil_of_length_eq_zero (by rw [hzl]; exact e)
      rw [hbm, hz0]; rfl
    obtain ⟨q, hq⟩ : ∃ q, ys.length = q + 1 := ⟨ys.length - 1, by omega⟩
    have hwl : ys.length ≤ S.length := by
      have h1 : (ys.map (·.1)).length = (walkM S (-1) (firstM S (-1)) S.length (firstM S (-1))).length := by rw [hS]
      have h2 := walkM_len S (-1) (firstM S (-1)) S.length (firstM S (-1))
      rw [List.length_map] at h1; omega
    rw [hq] at hrow hzl hwl
    obtain ⟨g, c, rfl⟩ := ownsRow_succ hrow
    have hcap : q + 1 ≤ c := by
      rcases hrow.2 with ⟨h0, -⟩ | ⟨g', cap, cur, hv', -, -, h4, -⟩
      · cases h0
      · simp only [Value.slice.injEq] at hv'
        omega
    have HCAP := Lib.hid hcap
    clear hcap
    have hbx := owns_box hrow
    have hgl := (hrow.lt g rfl)
    have hDg : D ≠ g := by
      intro e
      subst e
      rcases hrow.2 with ⟨h0, -⟩ | ⟨g', cap, cur, hv', -, hg, -⟩
      · cases h0
      · simp only [Value.slice.injEq, Option.some.injEq] at hv'
        obtain ⟨h1, -, -⟩ := hv'
        injection h1 with h1
        subst h1
        rw [hK] at hg; cases hg
    have hrev := reverse_any g (q + 1) c zs W hzl (by omega) (by omega) hbx
    have HREV := Lib.hid hrev; have HBM := Lib.hid hbm; have HZL := Lib.hid hzl
    have co := hv.cell
    clear hrev hbm hS hzs hbx hq hrow hyl hKB hzl
    gi_wp2_with fail
    go_wp2_with fail
    refine HREV.out.mono ?_
    rintro e w5 ⟨rfl, hbx, htu⟩
    have hv5 : Boxed w5 (w.heap.size + 1) 38 _ := (htu.block _ (by omega)).trans hv
    have co5 := hv5.cell
    have hK5 : w5.heap[D]? = some (.deferred (some [])) := (htu.block D hDg).trans hK
    have hB5 : Below w.heap.size w w5 := Go.MagM.Below.turned hB htu (by omega)
    have hBX := Lib.hid hbx; have HGL : g < w5.heap.size := by rw [htu.size]; exact hgl.2
    clear hbx htu co
    go_wp2
    refine ⟨by simp, .inl ⟨_, _, rfl, run_takeDeferred hK5, ?_⟩⟩
    refine ⟨_, results_tmp rfl _ _ _, g, c, ?_, by rw [HBM.out, List.length_reverse, HZL.out]; exact HCAP.out, ?_, by omega, by simp only [World.putObj]; simpa using HGL, hB5.trans (belowK_b (w := w) (Nat.le_refl _) w5 D _ _ (by omega) hK5 rfl rfl)⟩
    · rw [HBM.out, List.length_reverse, HZL.out]; rfl
    · rw [HBM.out]
      have e := World.putObj_heap_other (w := w5) (r := D) (k := g) (o := .deferred none) (fun e => hDg e.symm)
      exact ⟨fun i u hi => (World.cell?_of_block (a := ⟨g, i, none⟩) e).trans (hBX.out.c i u hi), fun i u hi => (World.frozen?_of_block (a := ⟨g, i, none⟩) e).trans (hBX.out.f i u hi)⟩
  case stop =>
    rintro D c pre W _ _ h _
    exact h.elim
theorem border_any {mb pb pc : Nat} {ta : Option Addr} {tc : Nat} {P : List (Int × Int)} {S : List TriM} (w : World) (h : MeshR w mb pb pc ta tc P S) (hP0 : P ≠ []) (hne : borderM S ≠ []) :
    Calls Try.prog 23 #[.pointer (some ⟨mb, 0, none⟩)] w fun e w' => ∃ g c, e = .returned (.slice (some ⟨g, 0, none⟩) (borderM S).length c) ∧ Box w' g (intCells (borderM S)) ∧ w.heap.size ≤ g ∧ g < w'.heap.size ∧ Below w.heap.size w w' := by
  refine (border_room w h hP0 hne).mono ?_
  rintro e w' ⟨g, c, h1, -, h2⟩
  exact ⟨g, c, h1, h2⟩
end Go.Proofs.Ytecnnpkpgbbfkaa
/- A part of a box is written. Over no program. -/
namespace Go.MagM
open Go.RowKit
section
variable {P : Program}
theorem run_storeCells_box {g : Nat} (off : Nat) : ∀ (xs : List Value) (i : Nat) {w : World} {vs : List Value}, Box w g vs → off + i + xs.length ≤ vs.length → (∀ v ∈ xs, v.oneCell' = true) → (storeCells ⟨g, off, none⟩ xs i).run P w = .ok () (Go.MagM.setAll w g (off + i) xs)
  | [], i, w, _, _, _, _ => rfl
  | x :: xs, i, w, vs, hb, hl, h1 => by
    have hl' : off + i + (xs.length + 1) ≤ vs.length := by simpa using hl
    have ho : vs[off + i]? = some (vs[off + i]'(by omega)) := List.getElem?_eq_getElem (by omega)
    have hc := hb.c (off + i) _ ho
    have hf := hb.f (off + i) _ ho
    have ha : (⟨g, off, none⟩ : Addr).add i = ⟨g, off + i, none⟩ := by unfold Addr.add; split <;> simp_all
    have ih := run_storeCells_box off xs (i + 1) (hb.set (off + i) x) (by simpa using by omega) (fun v hv => h1 v (by simp [hv]))
    rw [storeCells, Sem.run_bind, run_store P w _ x .plain (h1 x (by simp)), ha, hc]
    simp only [hf, Bool.false_eq_true, if_false, Result.andThen_ok]
    exact ih
/-- A store of several cells into a box. -/
theorem wp_store_box {o : Oper} {a : Act} {w : World} {K : Act → World → Prop} {Q : Exit → Act → World → Prop} (ty : TypeId) (x y : Operand) (ho : o.op = .store ty x y)
    {g off : Nat} {vs : List Value} (xs : List Value) (hb : Box w g vs) (hx : a.eval x = .pointer (some ⟨g, off, none⟩)) (hy : a.eval y = .agg xs.toArray) (hi : (P.info? ty).map (·.size) = some xs.length)
    (hl : off + xs.length ≤ vs.length) (h1 : xs.all (·.oneCell') = true) {w' : World} (hw : Go.MagM.setAll w g off xs = w') (h : K (a.put o.dst undef) w') : o.wp P a w K Q := by
  have hr := run_storeCells_box (P := P) off xs 0 hb (by omega) (fun v hv => List.all_eq_true.1 h1 v hv)
  have hr2 : (storeVar ty ⟨g, off, none⟩ (.agg xs.toArray)).run P w = .ok () (Go.MagM.setAll w g off xs) := by
    cases hq : P.info? ty with
    | none => simp [hq] at hi
    | some i =>
      have hs : xs.length = i.size := by simp [hq] at hi; omega
      simp only [Nat.add_zero] at hr
      simp [storeVar, sizeOf, typeInfo, hq, Value.cells, hs, hr]
  unfold Oper.wp execOp
  simp only [ho, hx, hy, Instr.storeAt, Instr.sureAddr, Sem.run_bind, Sem.run_pure, Result.andThen_ok, hr2]
  rw [hw]; exact h
theorem wpList_store_box {ops : Array Oper} {rest : List Oper} {o : Oper} {a : Act} {w : World} {Q : Exit → Act → World → Prop} (hg : o.guard = none) (ty : TypeId) (x y : Operand) (ho : o.op = .store ty x y)
    {g off : Nat} {vs : List Value} (xs : List Value) (hb : Box w g vs) (hx : a.eval x = .pointer (some ⟨g, off, none⟩)) (hy : a.eval y = .agg xs.toArray) (hi : (P.info? ty).map (·.size) = some xs.length)
    (hl : off + xs.length ≤ vs.length) (h1 : xs.all (·.oneCell') = true) {w' : World} (hw : Go.MagM.setAll w g off xs = w') (h : wpList P ops Q rest (a.put o.dst undef) w') : wpList P ops Q (o :: rest) a w :=
  wpList_plain hg fun _ hK => wp_store_box ty x y ho xs hb hx hy hi hl h1 hw (hK _ _ h)
end
end Go.MagM
/- A mesh that may be written: its triangles lie in a row of their own. Over any program. -/
namespace Go.MagM
open Go.RowKit
/-- Cells i, i + 1, .. of a list are written. -/
def setL (vs : List Value) : Nat → List Value → List Value
  | _, [] => vs
  | i, x :: xs => setL (vs.set i x) (i + 1) xs
theorem setL_get : ∀ (xs vs : List Value) (i j : Nat), i + xs.length ≤ vs.length → (setL vs i xs)[j]? = if i ≤ j ∧ j < i + xs.length then xs[j - i]? else vs[j]?
  | [], vs, i, j, _ => by rw [setL, if_neg (by simp)]
  | x :: xs, vs, i, j, h => by
    have hl : i + (xs.length + 1) ≤ vs.length := by simpa using h
    rw [setL, setL_get xs (vs.set i x) (i + 1) j (by rw [List.length_set]; omega), List.getElem?_set, List.length_cons]
    by_cases h1 : i = j
    · subst h1
      rw [if_neg (by omega), if_pos rfl, if_pos (by omega), if_pos (by omega), Nat.sub_self]; rfl
    · by_cases h2 : i + 1 ≤ j ∧ j < i + 1 + xs.length
      · rw [if_pos h2, if_pos (by omega), show j - i = (j - (i + 1)) + 1 by omega]; rfl
      · rw [if_neg h2, if_neg h1, if_neg (by omega)]
theorem TriM.cells_len (T : TriM) : T.cells.length = 9 := rfl
theorem setL_tri {S : List TriM} {k : Nat} (hk : k < S.length) (T : TriM) : setL (triCells S) (k * 9) T.cells = triCells (S.set k T) := by
  have hl : k * 9 + T.cells.length ≤ (triCells S).length := by rw [triCells_len, T.cells_len]; omega
  refine List.ext_getElem? fun j => ?_
  rw [setL_get _ _ _ _ hl, T.cells_len]
  by_cases hj : j < S.length * 9
  · obtain ⟨q, r, hr, rfl⟩ : ∃ q r, r < 9 ∧ j = q * 9 + r := ⟨j / 9, j % 9, Nat.mod_lt _ (by omega), by omega⟩
    have hq : q < S.length := by omega
    by_cases hqk : q = k
    · subst hqk
      rw [if_pos (by omega), triCells_get (S.set q T) q r T (by rw [List.getElem?_set, if_pos rfl, if_pos hq]) hr, show q * 9 + r - q * 9 = r by omega]
    · rw [if_neg (by omega)]
      obtain ⟨U, hU⟩ : ∃ U, S[q]? = some U := ⟨_, List.getElem?_eq_getElem hq⟩
      rw [triCells_get S q r U hU hr, triCells_get (S.set k T) q r U (by rw [List.getElem?_set, if_neg (fun e => hqk e.symm)]; exact hU) hr]
  · rw [if_neg (by omega), List.getElem?_eq_none (by rw [triCells_len]; omega), List.getElem?_eq_none (by rw [triCells_len, List.length_set]; omega)]
theorem owns_put {w : World} {base : Nat} {e : TypeId} {size g n c : Nat} {xs : List Value} (h : w.ownsRow base e size (.slice (some ⟨g, 0, none⟩) n c) n xs) (j : Nat) (u : Value) :
    (w.setCell ⟨g, j, none⟩ u).ownsRow base e size (.slice (some ⟨g, 0, none⟩) n c) n (xs.set j u) := by
  refine ⟨by rw [List.length_set]; exact h.1, ?_⟩
  rcases h.2 with ⟨h0, _⟩ | ⟨g', cap, cur, h1, h2, h3, h4, h5, h6, h7⟩
  · cases h0
  · simp only [Value.slice.injEq, Option.some.injEq] at h1
    obtain ⟨h1, -, rfl⟩ := h1
    injection h1 with h1
    subst h1
    refine .inr ⟨g, c, cur.setIfInBounds j u, rfl, h2, ?_, h4, h5, by simpa using h6, ?_⟩
    · simp only [World.setCell, Array.getElem?_modify, if_true]
      rw [h3]
      rfl
    · rw [Array.toList_setIfInBounds, List.take_set, h7]
theorem owns_setAll {base : Nat} {e : TypeId} {size g n c : Nat} : ∀ (ys : List Value) (i : Nat) {w : World} {xs : List Value}, w.ownsRow base e size (.slice (some ⟨g, 0, none⟩) n c) n xs →
    (setAll w g i ys).ownsRow base e size (.slice (some ⟨g, 0, none⟩) n c) n (setL xs i ys)
  | [], _, _, _, h => h
  | y :: ys, i, _, _, h => owns_setAll ys (i + 1) (owns_put h i y)
theorem turned_setAll {w : World} {g : Nat} : ∀ (ys : List Value) (i : Nat) {w'' : World}, Turned w w'' g → Turned w (setAll w'' g i ys) g
  | [], _, _, h' => h'
  | y :: ys, i, _, h' => turned_setAll ys (i + 1) (h'.setCell i y)
def ptsCells : List (Int × Int) → List Value
  | [] => []
  | q :: t => [.int .i64 q.1, .int .i64 q.2] ++ ptsCells t
theorem ptsCells_len : ∀ l, (ptsCells l).length = l.length * 2
  | [] => rfl
  | q :: t => by rw [ptsCells, List.length_append, ptsCells_len t, List.length_cons]; simp; omega
theorem ptsCells_app : ∀ l k, ptsCells (l ++ k) = ptsCells l ++ ptsCells k
  | [], _ => rfl
  | q :: t, k => by rw [List.cons_append, ptsCells, ptsCells_app t k, ptsCells, List.append_assoc]
theorem ptsCells_get : ∀ (l : List (Int × Int)) (i : Nat) (x y : Int), l[i]? = some (x, y) → (ptsCells l)[i * 2]? = some (.int .i64 x) ∧ (ptsCells l)[i * 2 + 1]? = some (.int .i64 y)
  | [], _, _, _, h => by simp at h
  | q :: t, 0, x, y, h => by simp at h; subst h; exact ⟨rfl, rfl⟩
  | q :: t, i + 1, x, y, h => by
    have := ptsCells_get t i x y (by simpa using h)
    rw [ptsCells, List.getElem?_append_right (by simp; omega), List.getElem?_append_right (by simp; omega)]
    rw [show (i + 1) * 2 - [Value.int .i64 q.1, Value.int .i64 q.2].length = i * 2 by simp; omega, show (i + 1) * 2 + 1 - [Value.int .i64 q.1, Value.int .i64 q.2].length = i * 2 + 1 by simp; omega]
    exact this
/-- A mesh lies at mb; nothing of it below lo; its triangles are the slice tv, in a row of their own (of elements e). -/
structure MeshO (p e : TypeId) (w : World) (lo mb pb pc : Nat) (tv : Value) (P : List (Int × Int)) (S : List TriM) : Prop where
  box : Box w mb [.slice (some ⟨pb, 0, none⟩) P.length pc, tv]
  prow : w.ownsRow lo p 2 (.slice (some ⟨pb, 0, none⟩) P.length pc) P.length (ptsCells P)
  row : w.ownsRow lo e 9 tv S.length (triCells S)
  low : lo ≤ mb ∧ mb < w.heap.size ∧ pb < w.heap.size ∧ pb ≠ mb
  apart : tv.ownBlock ≠ some mb ∧ tv.ownBlock ≠ some pb
  short : P.length ≤ 1000000 ∧ S.length ≤ 1000000
theorem MeshO.pts {p e : TypeId} {w : World} {lo mb pb pc : Nat} {tv : Value} {P : List (Int × Int)} {S : List TriM} (h : MeshO p e w lo mb pb pc tv P S) : PtsIn w pb P := fun i x y hi => by
  obtain ⟨h1, h2⟩ := ptsCells_get P i x y hi
  have hb := owns_box h.prow
  exact ⟨hb.c _ _ h1, hb.c _ _ h2⟩
/-- As it is read. -/
theorem MeshO.read {p e : TypeId} {w : World} {lo mb pb pc : Nat} {tv : Value} {P : List (Int × Int)} {S : List TriM} (h : MeshO p e w lo mb pb pc tv P S) : ∃ ta tc, tv = .slice ta S.length tc ∧ MeshR w mb pb pc ta tc P S := by
  have hb := h.box
  rcases h.row.2 with ⟨rfl, h0⟩ | ⟨g, cap, cur, rfl, h2, h3, h4⟩
  · have hS : S = [] := List.eq_nil_of_length_eq_zero h0
    subst hS
    exact ⟨none, 0, rfl, hb, h.pts, fun i T hi => by simp at hi, h.short⟩
  · refine ⟨_, cap, rfl, hb, h.pts, fun i T hi => ⟨g, rfl, fun j v hj => ?_⟩, h.short⟩
    have hx := owns_box h.row
    exact hx.c _ _ (by rw [triCells_get S i j T hi (by have := (List.getElem?_eq_some_iff.1 hj).1; exact this)]; exact hj)
/-- What a call that writes a mesh leaves. -/
structure Mut (w w' : World) (mb : Nat) (tv tv' : Value) : Prop where
  os : w'.os = w.os
  tape : w'.tape = w.tape
  output : w'.output = w.output
  size : w.heap.size ≤ w'.heap.size
  keep : ∀ k, k < w.heap.size → k ≠ mb → tv.ownBlock ≠ some k → w'.heap[k]? = w.heap[k]? ∧ tv'.ownBlock ≠ some k
theorem Mut.refl (w : World) (mb : Nat) (tv : Value) : Mut w w mb tv tv := ⟨rfl, rfl, rfl, Nat.le_refl _, fun _ _ _ h => ⟨rfl, h⟩⟩
theorem Mut.trans {a b c : World} {mb : Nat} {t u v : Value} (h : Mut a b mb t u) (k : Mut b c mb u v) : Mut a c mb t v :=
  ⟨k.os.trans h.os, k.tape.trans h.tape, k.output.trans h.output, Nat.le_trans h.size k.size, fun i hi h1 h2 => by
    obtain ⟨e1, e2⟩ := h.keep i hi h1 h2
    obtain ⟨e3, e4⟩ := k.keep i (Nat.lt_of_lt_of_le hi h.size) h1 e2
    exact ⟨e3.trans e1, e4⟩⟩
theorem Mut.below {w w' : World} {mb B : Nat} {tv tv' : Value} (h : Mut w w' mb tv tv') (hB : B ≤ w.heap.size) (hm : B ≤ mb) (ht : ∀ k, tv.ownBlock = some k → B ≤ k) : Below B w w' :=
  ⟨h.os, h.tape, h.output, h.size, fun k hk => (h.keep k (by omega) (by omega) (fun e => by have := ht k e; omega)).1⟩
/-- What lies where no mesh is. -/
theorem Mut.of_below {w w' : World} {mb : Nat} {tv : Value} (h : Below w.heap.size w w') (_ht : ∀ k, tv.ownBlock = some k → k < w.heap.size) : Mut w w' mb tv tv :=
  ⟨h.os, h.tape, h.output, h.size, fun k hk _ h2 => ⟨h.block k hk, h2⟩⟩
theorem MeshO.below {p e : TypeId} {w w' : World} {lo mb pb pc : Nat} {tv : Value} {P : List (Int × Int)} {S : List TriM} (h : MeshO p e w lo mb pb pc tv P S) (hb : Below w.heap.size w w') : MeshO p e w' lo mb pb pc tv P S :=
  ⟨h.box.below hb, owns_blow h.prow hb, owns_blow h.row hb, by have := h.low; have := hb.size; omega, h.apart, h.short⟩
theorem MeshO.drew {p e : TypeId} {w : World} {lo mb pb pc : Nat} {tv : Value} {P : List (Int × Int)} {S : List TriM} (h : MeshO p e w lo mb pb pc tv P S) : MeshO p e w.drew lo mb pb pc tv P S :=
  ⟨h.box.drew, h.prow, h.row, h.low, h.apart, h.short⟩
theorem Box.same {w w' : World} {g : Nat} {vs : List Value} (h : Box w g vs) (e : w'.heap[g]? = w.heap[g]?) : Box w' g vs :=
  ⟨fun i u hi => (World.cell?_of_block (a := ⟨g, i, none⟩) e).trans (h.c i u hi), fun i u hi => (World.frozen?_of_block (a := ⟨g, i, none⟩) e).trans (h.f i u hi)⟩
theorem PtsIn.same {w w' : World} {b : Nat} {l : List (Int × Int)} (h : PtsIn w b l) (e : w'.heap[b]? = w.heap[b]?) : PtsIn w' b l := fun i x y hi => by
  obtain ⟨h1, h2⟩ := h i x y hi
  exact ⟨(World.cell?_of_block (a := ⟨b, i * 2, none⟩) e).trans h1, (World.cell?_of_block (a := ⟨b, i * 2 + 1, none⟩) e).trans h2⟩
theorem owns_same {w w' : World} {base : Nat} {e : TypeId} {size : Nat} {v : Value} {n : Nat} {xs : List Value} (h : w.ownsRow base e size v n xs) (hs : ∀ k, v.ownBlock = some k → w'.heap[k]? = w.heap[k]?) : w'.ownsRow base e size v n xs := by
  refine ⟨h.1, ?_⟩
  rcases h.2 with hn | ⟨g, cap, cur, rfl, h2, h3, h4⟩
  · exact .inl hn
  · exact .inr ⟨g, cap, cur, rfl, h2, (hs g rfl).trans h3, h4⟩
/-- Another mesh stays. -/
theorem MeshO.mut {p e : TypeId} {w w' : World} {lo mb pb pc : Nat} {tv : Value} {P : List (Int × Int)} {S : List TriM} (h : MeshO p e w lo mb pb pc tv P S) {mb2 : Nat} {tv2 tv2' : Value} (hm : Mut w w' mb2 tv2 tv2')
    (h1 : mb ≠ mb2 ∧ tv2.ownBlock ≠ some mb) (h2 : pb ≠ mb2 ∧ tv2.ownBlock ≠ some pb) (h3 : ∀ k, tv.ownBlock = some k → k ≠ mb2 ∧ tv2.ownBlock ≠ some k) : MeshO p e w' lo mb pb pc tv P S := by
  have e1 := (hm.keep mb h.low.2.1 h1.1 h1.2).1
  have e2 := (hm.keep pb h.low.2.2.1 h2.1 h2.2).1
  refine ⟨h.box.same e1, owns_same h.prow (fun k hk => by obtain rfl : k = pb := (by simpa [Value.ownBlock] using hk.symm); exact e2), owns_same h.row fun k hk => ?_, by have := h.low; have := hm.size; omega, h.apart, h.short⟩
  have h4 := h3 k hk
  exact (hm.keep k (h.row.lt k hk).2 h4.1 h4.2).1
/-- A triangle of a mesh is written in place. -/
theorem MeshO.setT {p e : TypeId} {w : World} {lo mb pb pc g c : Nat} {P : List (Int × Int)} {S : List TriM} (h : MeshO p e w lo mb pb pc (.slice (some ⟨g, 0, none⟩) S.length c) P S) {S' : List TriM} (i : Nat) (ys : List Value) (hl : S'.length = S.length) (hs : setL (triCells S) i ys = triCells S') :
    MeshO p e (setAll w g i ys) lo mb pb pc (.slice (some ⟨g, 0, none⟩) S.length c) P S' ∧ Mut w (setAll w g i ys) mb (.slice (some ⟨g, 0, none⟩) S.length c) (.slice (some ⟨g, 0, none⟩) S.length c) := by
  have ht : Turned w (setAll w g i ys) g := turned_setAll ys i (Turned.refl w g)
  have hmg : mb ≠ g := fun e => h.apart.1 (by rw [e]; rfl)
  have hpg : pb ≠ g := fun e => h.apart.2 (by rw [e]; rfl)
  refine ⟨⟨h.box.same (ht.block mb hmg), owns_same h.prow (fun k hk => by obtain rfl : k = pb := (by simpa [Value.ownBlock] using hk.symm); exact ht.block _ hpg), ?_, by rw [ht.size]; exact h.low, h.apart, by rw [hl]; exact h.short⟩, ⟨ht.os, ht.tape, ht.output, by rw [ht.size]; exact Nat.le_refl _, fun k _ _ h2 => ⟨ht.block k (fun e => h2 (by rw [e]; rfl)), h2⟩⟩⟩
  have := owns_setAll ys i h.row
  rw [hs] at this
  rw [hl]; exact this
end Go.MagM
/- mesh's check: Sound. -/
namespace Go.Proofs.Ytecnnpkpgbbfkaa
open Go.RowKit Go.MagM
/-- A triangle is as it should be, or gone. -/
def okT (P : List (Int × Int)) (S : List TriM) (t : Nat) (T : TriM) : Bool := goneB T || (formedT P S T && linkedT S t T)
/-- So many of the first k have Ghost. -/
def ghN (S : List TriM) : Nat → Nat
  | 0 => 0
  | k + 1 => ghN S k + if placeM S (k : Int) (-1) = -1 then 0 else 1
theorem ghN_none {S : List TriM} {k : Nat} (h : placeM S (k : Int) (-1) = -1) : ghN S (k + 1) = ghN S k := by
  show ghN S k + _ = _; rw [if_pos h]; rfl
theorem ghN_some {S : List TriM} {k : Nat} (h : placeM S (k : Int) (-1) ≠ -1) : ghN S (k + 1) = ghN S k + 1 := by
  show ghN S k + _ = _; rw [if_neg h]
theorem ghN_le (S : List TriM) : ∀ k, ghN S k ≤ k
  | 0 => Nat.le_refl _
  | k + 1 => by have := ghN_le S k; unfold ghN; split <;> omega
/-- What Sound answers. -/
def SoundIs (P : List (Int × Int)) (S : List TriM) (r : Bool) : Prop :=
  (r = false ∧ ∃ k T, S[k]? = some T ∧ okT P S k T = false) ∨
  (r = true ∧ (∀ k T, S[k]? = some T → okT P S k T = true) ∧ borderM S ≠ [] ∧ (borderM S).length = ghN S S.length ∧ ∃ hs : List Nat, borderM S = hs.map (fun v : Nat => (v : Int)) ∧ (∀ v, v ∈ hs → v < P.length) ∧ convexM P hs = true)
set_option maxRecDepth 100000 in
set_option maxHeartbeats 16000000 in
theorem Sound_any {mb pb pc : Nat} {ta : Option Addr} {tc : Nat} {P : List (Int × Int)} {S : List TriM} (r : Bool) (w : World) (h : MeshR w mb pb pc ta tc P S) (hP : InPs P) (hP0 : P ≠ []) (hr : SoundIs P S r) :
    Calls Try.prog 7 #[.pointer (some ⟨mb, 0, none⟩)] w fun e w' => e = .returned (.bool r) ∧ Below w.heap.size w w' := by
  have hsh := h.short.2
  have H := Lib.hid h; have HR := Lib.hid hr; have HPS := Lib.hid hP; have HP0 := Lib.hid hP0
  obtain ⟨b0, b1, -, -⟩ := h.box.open2
  clear h hr hP hP0
  go_enter Try.func7, Try.ntmps7
  go_wp2
  clear b0 b1
  go_loopw [3, 4, 13] (fun gv _ iv wr => ∃ k : Nat, k ≤ S.length ∧ iv = .int .i64 k ∧ gv = .int .i64 (ghN S k : Nat) ∧ (∀ j T, j < k → S[j]? = some T → okT P S j T = true) ∧ Below w.heap.size w wr) (fun _ _ iv _ => S.length - (intOf iv).toNat)
  case atStart => exact ⟨0, Nat.zero_le _, rfl, rfl, fun j T hj => by omega, Below.refl _ _⟩
  case round =>
    obtain ⟨k, hk, rfl, rfl, hne, hB_0⟩ := hrel
    have HNE := Lib.hid hne; clear hne
    have hgn := ghN_le S k
    by_cases hlt : k < S.length
    · obtain ⟨T, hT⟩ : ∃ T, S[k]? = some T := ⟨_, List.getElem?_eq_getElem hlt⟩
      have hm_0 := H.out.below hB_0
      have b0 := hm_0.box.c0; have b1 := hm_0.box.c1
      obtain ⟨tb, hta, htl, ht9⟩ := hm_0.tris.get hT
      subst hta
      have HT := Lib.hid hT
      have hgone := gone_any tb (k * 9) T wr ht9.c0 ht9.c1 ht9.c2
      obtain ⟨ok, hok⟩ : ∃ ok, okT P S k T = ok := ⟨_, rfl⟩
      have hstep : ok = true → ∀ j T', j < k + 1 → S[j]? = some T' → okT P S j T' = true := by
        intro e j T' hj hT'
        rcases Nat.lt_or_ge j k with g | g
        · exact HNE.out j T' g hT'
        · obtain rfl : j = k := by omega
          rw [HT.out] at hT'; cases hT'
          rw [hok, e]
      have hbad : ok = false → r = false := by
        intro e
        rcases HR.out with h | h
        · exact h.1
        · have := h.2.1 k T HT.out
          rw [hok, e] at this; cases this
      have HSTEP := Lib.hid hstep; have HBAD := Lib.hid hbad
      have hpk : placeM S (k : Int) (-1) = if goneB T then -1 else placeT T (-1) := by unfold placeM; rw [getT_nat, HT.out]
      unfold okT at hok
      clear hT hstep hbad
      cases hg : goneB T with
      | true =>
        rw [hg] at hgone hok hpk
        simp only [Bool.true_or, if_true] at hok hpk
        have HG := Lib.hid hgone; have HPK := Lib.hid hpk; have HOK := Lib.hid hok
        clear hg hgone hok hpk ht9
        go_wp2_with fail
        refine HG.out.mono ?_
        rintro e w' ⟨rfl, rfl⟩
        go_wp2
        go_roundw
        case rel => exact ⟨k + 1, by omega, by go_num, by rw [ghN_none HPK.out], HSTEP.out HOK.out.symm, hB_0⟩
        case measure => simp [intOf]; omega
      | false =>
        rw [hg] at hgone hok hpk
        simp only [Bool.false_or, Bool.false_eq_true, if_false] at hok hpk
        have hform := formed_any k T wr hm_0 HPS.out HT.out
        have hlink := fun w' (hb : Below wr.heap.size wr w') => linked_any k T w' (hm_0.below hb) HT.out
        have hplace := fun w' (hb : Below wr.heap.size wr w') => place_any (k : Int) (-1) w' (hm_0.below hb)
        obtain ⟨fo, hfo⟩ : ∃ fo, formedT P S T = fo := ⟨_, rfl⟩
        obtain ⟨li, hli⟩ : ∃ li, linkedT S k T = li := ⟨_, rfl⟩
        obtain ⟨pl, hpl⟩ : ∃ pl, placeM S (k : Int) (-1) = pl := ⟨_, rfl⟩
        rw [hfo] at hform hok
        simp only [hli] at hlink hok
        simp only [hpl] at hplace
        have HG := Lib.hid hgone; have HPK := Lib.hid hpl; have HOK := Lib.hid hok; have HF := Lib.hid hform; have HL := Lib.hid hlink; have HPL := Lib.hid hplace
        clear hg hgone hok hpk ht9 hform hlink hplace hfo hli hpl hm_0 b0 b1
        have hm_0 := H.out.below hB_0
        have b0 := hm_0.box.c0; have b1 := hm_0.box.c1
        cases fo with
        | false =>
          have hr' : r = false := HBAD.out (by rw [← HOK.out]; rfl)
          subst hr'
          go_wp2_with fail
          refine HG.out.mono ?_
          rintro e w' ⟨rfl, rfl⟩
          go_wp2_with fail
          refine HF.out.mono ?_
          rintro e w2 ⟨rfl, hb2⟩
          go_wp2
          go_ret
          exact ⟨rfl, hB_0.trans (hb2.mono hB_0.size)⟩
        | true =>
          cases li with
          | false =>
            have hr' : r = false := HBAD.out (by rw [← HOK.out]; rfl)
            subst hr'
            go_wp2_with fail
            refine HG.out.mono ?_
            rintro e w' ⟨rfl, rfl⟩
            go_wp2_with fail
            refine HF.out.mono ?_
            rintro e w2 ⟨rfl, hb2⟩
            go_wp2_with fail
            refine (HL.out _ hb2).mono ?_
            rintro e w3 ⟨rfl, hd3⟩
            go_wp2
            go_ret
            exact ⟨rfl, hB_0.trans ((hb2.trans (hd3.below.mono hb2.size)).mono hB_0.size)⟩
          | true =>
            have HSK := Lib.hid (HSTEP.out (by rw [← HOK.out]; rfl))
            go_wp2_with fail
            refine HG.out.mono ?_
            rintro e w' ⟨rfl, rfl⟩
            go_wp2_with fail
            refine HF.out.mono ?_
            rintro e w2 ⟨rfl, hb2⟩
            go_wp2_with fail
            refine (HL.out _ hb2).mono ?_
            rintro e w3 ⟨rfl, hd3⟩
            have hb3 := hb2.trans (hd3.below.mono hb2.size)
            go_wp2_with fail
            refine (HPL.out _ hb3).mono ?_
            rintro e w4 ⟨rfl, rfl⟩
            by_cases hm : pl = -1
            · subst hm
              go_wp2
              go_roundw
              case rel => exact ⟨k + 1, by omega, by go_num, by rw [ghN_none HPK.out], HSK.out, hB_0.trans (hb3.mono hB_0.size)⟩
              case measure => simp [intOf]; omega
            · have hd : (pl != -1) = true := by simp [hm]
              have HM := Lib.hid hm; clear hm
              go_wp2
              go_roundw
              case rel => exact ⟨k + 1, by omega, by go_num, by rw [ghN_some (by rw [HPK.out]; exact HM.out)]; go_num, HSK.out, hB_0.trans (hb3.mono hB_0.size)⟩
              case measure => simp [intOf]; omega
    · obtain rfl : k = S.length := by omega
      rcases HR.out with ⟨-, j, T, hT, hno⟩ | ⟨rfl, -, hbn, hbl, hs, hbs, hbv, hcv⟩
      · have := HNE.out j T (List.getElem?_eq_some_iff.1 hT).1 hT
        rw [hno] at this; cases this
      · have hm_0 := H.out.below hB_0
        have hbor := border_any wr hm_0 HP0.out hbn
        have hhl : hs.length = ghN S S.length := by rw [← hbl, hbs, List.length_map]
        rw [hbl] at hbor
        have HBO := Lib.hid hbor; have HHL := Lib.hid hhl; have HBS := Lib.hid hbs; have HBV := Lib.hid hbv; have HCV := Lib.hid hcv
        clear hbor hhl hbs hbv hcv hbn hbl hm_0
        have hgn' : ((ghN S S.length : Int) == (ghN S S.length : Int)) = true := by simp
        go_wp2_with fail
        refine HBO.out.mono ?_
        rintro e w2 ⟨g, c, rfl, hbx, -, -, hb2⟩
        have hnat : NatsIn w2 g hs := by
          intro i v hi
          have := hbx.c i (.int .i64 (v : Int)) (by rw [HBS.out]; unfold intCells; rw [List.getElem?_map, List.getElem?_map, hi]; rfl)
          exact this
        have hcx := convex_any g c _ hs w2 ((H.out.below hB_0).below hb2) HPS.out HHL.out (by omega) hnat HBV.out
        rw [HCV.out] at hcx
        have HCX := Lib.hid hcx
        clear hcx hnat hbx
        go_wp2_with fail
        refine HCX.out.mono ?_
        rintro e w3 ⟨rfl, hb3⟩
        go_wp2
        go_ret
        exact ⟨rfl, hB_0.trans ((hb2.trans (hb3.mono hb2.size)).mono hB_0.size)⟩
end Go.Proofs.Ytecnnpkpgbbfkaa
/- mesh's writers: Drop, Link. -/
namespace Go.MagM
open Go.RowKit
theorem modify_set {α : Type} {l : List α} {i : Nat} {x : α} (h : l[i]? = some x) (f : α → α) : l.modify i f = l.set i (f x) := by
  refine List.ext_getElem? fun j => ?_
  rw [List.getElem?_modify, List.getElem?_set]
  by_cases e : i = j
  · subst e
    rw [h, if_pos rfl, if_pos (List.getElem?_eq_some_iff.1 h).1]; simp
  · rw [if_neg e]; simp [e]
/-- Where the cells of a mesh's triangles lie. -/
theorem tri_at {S : List TriM} {t : Nat} {T : TriM} (h : S[t]? = some T) (j : Nat) (hj : j < 9) : (triCells S)[t * 9 + j]? = T.cells[j]? := triCells_get S t j T h hj
theorem tri_n {S : List TriM} {t : Nat} {T : TriM} (h : S[t]? = some T) {i : Nat} (hi : i < 3) : (triCells S)[t * 9 + 3 + i]? = some (.int .i64 (T.n i)) := by
  rw [Nat.add_assoc, tri_at h (3 + i) (by omega)]
  obtain rfl | rfl | rfl : i = 0 ∨ i = 1 ∨ i = 2 := by omega
  all_goals rfl
theorem tri_f {S : List TriM} {t : Nat} {T : TriM} (h : S[t]? = some T) {i : Nat} (hi : i < 3) : (triCells S)[t * 9 + 6 + i]? = some (.bool (T.f i)) := by
  rw [Nat.add_assoc, tri_at h (6 + i) (by omega)]
  obtain rfl | rfl | rfl : i = 0 ∨ i = 1 ∨ i = 2 := by omega
  all_goals rfl
theorem MeshO.slot {p e : TypeId} {w : World} {lo mb pb pc : Nat} {tv : Value} {P : List (Int × Int)} {S : List TriM} (h : MeshO p e w lo mb pb pc tv P S) {t : Nat} {T : TriM} (hT : S[t]? = some T) : ∃ tb c, tv = .slice (some ⟨tb, 0, none⟩) S.length c := by
  obtain ⟨ta, tc, rfl, hr⟩ := h.read
  obtain ⟨b, rfl, -⟩ := hr.tris.get hT
  exact ⟨b, tc, rfl⟩
/-- One half of a link. -/
def half (S : List TriM) (t : Nat) (T : TriM) (i : Nat) (u : Int) (f : Bool) : List TriM := S.set t ((T.setN i u).setF i f)
theorem half_len (S : List TriM) (t : Nat) (T : TriM) (i : Nat) (u : Int) (f : Bool) : (half S t T i u f).length = S.length := by unfold half; simp
theorem linkL_half {S : List TriM} {t u i j : Nat} {T U : TriM} {f : Bool} (hT : S[t]? = some T) (hU : (half S t T i (u : Int) f)[u]? = some U) : linkL S t i u j f = half (half S t T i (u : Int) f) u U j (t : Int) f := by
  unfold linkL
  rw [modify_set hT]
  have : S.set t ((T.setN i (u : Int)).setF i f) = half S t T i (u : Int) f := rfl
  rw [this, modify_set hU]; rfl
/-- What two stores leave. -/
theorem MeshO.half {p e : TypeId} {w : World} {lo mb pb pc g c : Nat} {P : List (Int × Int)} {S : List TriM} (h : MeshO p e w lo mb pb pc (.slice (some ⟨g, 0, none⟩) S.length c) P S) {t i : Nat} (hi : i < 3) {T : TriM} (hT : S[t]? = some T) (u : Int) (f : Bool) :
    MeshO p e ((w.setCell ⟨g, t * 9 + 3 + i, none⟩ (.int .i64 u)).setCell ⟨g, t * 9 + 6 + i, none⟩ (.bool f)) lo mb pb pc (.slice (some ⟨g, 0, none⟩) S.length c) P (half S t T i u f) ∧
    Mut w ((w.setCell ⟨g, t * 9 + 3 + i, none⟩ (.int .i64 u)).setCell ⟨g, t * 9 + 6 + i, none⟩ (.bool f)) mb (.slice (some ⟨g, 0, none⟩) S.length c) (.slice (some ⟨g, 0, none⟩) S.length c) := by
  have hl := (List.getElem?_eq_some_iff.1 hT).1
  have e1 : setL (triCells S) (t * 9 + 3 + i) [.int .i64 u] = triCells (S.set t (T.setN i u)) := by
    show (triCells S).set (t * 9 + 3 + i) _ = _
    rw [Nat.add_assoc]; exact triCells_setN hT i hi u
  obtain ⟨h1, m1⟩ := h.setT (S' := S.set t (T.setN i u)) (t * 9 + 3 + i) [.int .i64 u] (by simp) e1
  have hT2 : (S.set t (T.setN i u))[t]? = some (T.setN i u) := by rw [List.getElem?_set, if_pos rfl, if_pos hl]
  have e2 : setL (triCells (S.set t (T.setN i u))) (t * 9 + 6 + i) [.bool f] = triCells (S.set t ((T.setN i u).setF i f)) := by
    show (triCells (S.set t (T.setN i u))).set (t * 9 + 6 + i) _ = _
    rw [Nat.add_assoc, triCells_setF hT2 i hi f, List.set_set]
  have hlen : (S.set t (T.setN i u)).length = S.length := by simp
  have h1' : MeshO p e (setAll w g (t * 9 + 3 + i) [.int .i64 u]) lo mb pb pc (.slice (some ⟨g, 0, none⟩) (S.set t (T.setN i u)).length c) P (S.set t (T.setN i u)) := by rw [hlen]; exact h1
  obtain ⟨h2, m2⟩ := h1'.setT (S' := S.set t ((T.setN i u).setF i f)) (t * 9 + 6 + i) [.bool f] (by simp) e2
  rw [hlen] at h2 m2
  exact ⟨h2, m1.trans m2⟩
def goneTri : TriM := ⟨-2, -2, -2, -1, -1, -1, false, false, false⟩
end Go.MagM
namespace Go.Proofs.Ytecnnpkpgbbfkaa
open Go.RowKit Go.MagM
set_option maxRecDepth 100000 in
set_option maxHeartbeats 16000000 in
theorem Link_any {lo mb pb pc : Nat} {tv : Value} {P : List (Int × Int)} {S : List TriM} (t i u j : Nat) (f : Bool) (T U : TriM) (w : World) (h : MeshO 62 49 w lo mb pb pc tv P S) (hT : S[t]? = some T) (hgT : goneB T = false) (hi : i < 3) (hU : S[u]? = some U) (hgU : goneB U = false) (hj : j < 3) :
    Calls Try.prog 38 #[.pointer (some ⟨mb, 0, none⟩), .int .i64 (t : Int), .int .i64 (i : Int), .int .i64 (u : Int), .int .i64 (j : Int), .bool f] w fun e w' => e = .returned (.tuple #[]) ∧ MeshO 62 49 w' lo mb pb pc tv P (linkL S t i u j f) ∧ Mut w w' mb tv tv := by
  obtain ⟨ta, tc, htv, hr⟩ := h.read
  have k1 := hasEdge_any (t : Int) (i : Int) w hr
  have k2 := hasEdge_any (u : Int) (j : Int) w hr
  have g1 : hasB S (t : Int) (i : Int) = true := by unfold hasB thereB; rw [getT_nat, hT]; simp [hgT]; omega
  have g2 : hasB S (u : Int) (j : Int) = true := by unfold hasB thereB; rw [getT_nat, hU]; simp [hgU]; omega
  rw [g1] at k1; rw [g2] at k2
  obtain ⟨tb, c, rfl⟩ := h.slot hT
  clear htv hr g1 g2
  obtain ⟨U', hU'⟩ : ∃ U', (half S t T i (u : Int) f)[u]? = some U' := ⟨_, List.getElem?_eq_getElem (by rw [half_len]; exact (List.getElem?_eq_some_iff.1 hU).1)⟩
  have hlk := linkL_half (j := j) hT hU'
  have ltT := (List.getElem?_eq_some_iff.1 hT).1
  have ltU := (List.getElem?_eq_some_iff.1 hU).1
  have hsh := h.short.2
  obtain ⟨len, hlen⟩ : ∃ len, S.length = len := ⟨_, rfl⟩
  have hd := h.drew
  have nT := tri_n hT hi; have fT := tri_f hT hi
  have hbq := owns_box hd.row
  have a1 := hbq.c _ _ nT; have a2 := hbq.f _ _ nT
  have hbq2 := hbq.set (t * 9 + 3 + i) (.int .i64 (u : Int))
  have fT2 : ((triCells S).set (t * 9 + 3 + i) (.int .i64 (u : Int)))[t * 9 + 6 + i]? = some (.bool (T.f i)) := by rw [List.getElem?_set_ne (by omega)]; exact fT
  have a3 := hbq2.c _ _ fT2; have a4 := hbq2.f _ _ fT2
  obtain ⟨ho2, hm2⟩ := hd.half hi hT (u : Int) f
  have hd2 := ho2.drew
  have nU := tri_n hU' hj; have fU := tri_f hU' hj
  have hd2' := hd2
  rw [← half_len S t T i (u : Int) f] at hd2'
  have hbr := owns_box hd2'.row
  have b1 := hbr.c _ _ nU; have b2 := hbr.f _ _ nU
  have hbr2 := hbr.set (u * 9 + 3 + j) (.int .i64 (t : Int))
  have fU2 : ((triCells (half S t T i (u : Int) f)).set (u * 9 + 3 + j) (.int .i64 (t : Int)))[u * 9 + 6 + j]? = some (.bool (U'.f j)) := by rw [List.getElem?_set_ne (by omega)]; exact fU
  have b3 := hbr2.c _ _ fU2; have b4 := hbr2.f _ _ fU2
  obtain ⟨ho3, hm3⟩ := hd2'.half hj hU' (t : Int) f
  have ct := hd.box.c1
  have ct2 := hd2.box.c1
  rw [half_len] at ho3 hm3
  rw [← hlk] at ho3
  have hmA : Mut w w.drew mb (.slice (some ⟨tb, 0, none⟩) S.length c) (.slice (some ⟨tb, 0, none⟩) S.length c) := ⟨rfl, rfl, rfl, Nat.le_refl _, fun _ _ _ h => ⟨rfl, h⟩⟩
  have hmB : ∀ w : World, Mut w w.drew mb (.slice (some ⟨tb, 0, none⟩) S.length c) (.slice (some ⟨tb, 0, none⟩) S.length c) := fun _ => ⟨rfl, rfl, rfl, Nat.le_refl _, fun _ _ _ h => ⟨rfl, h⟩⟩
  have hmall := (hmA.trans hm2).trans ((hmB _).trans hm3)
  rw [hlen] at ct ct2 ltT ltU hsh
  have K1 := Lib.hid k1; have K2 := Lib.hid k2; have HO3 := Lib.hid ho3; have HM := Lib.hid hmall
  have hb1 : (0 : Int) ≤ (t : Int) := by omega
  have hb2 : (t : Int) < (len : Int) := by omega
  have hb3 : (0 : Int) ≤ (u : Int) := by omega
  have hb4 : (u : Int) < (len : Int) := by omega
  have hb5 : (0 : Int) ≤ (i : Int) := by omega
  have hb6 : (i : Int) < 3 := by omega
  have hb7 : (0 : Int) ≤ (j : Int) := by omega
  have hb8 : (j : Int) < 3 := by omega
  have HLEN := Lib.hid hlen
  clear k1 k2 hd nT fT hbq hbq2 fT2 ho2 hm2 hd2 nU fU hbr hbr2 fU2 hd2' ho3 hm3 hmA hmB hmall hT hU hU' hlk h hgT hgU hlen
  go_enter Try.func38, Try.ntmps38
  go_wp2_with fail
  refine K1.out.mono ?_
  rintro e w' ⟨rfl, rfl⟩
  go_wp2_with fail
  refine K2.out.mono ?_
  rintro e w' ⟨rfl, rfl⟩
  go_wp2
  obtain ⟨SSq, hSSq⟩ : ∃ S : Array Bool → World → Prop, ∀ l w', S l w' ↔ ((l.getD 17 true = false → w'.cell? ⟨mb, 1, none⟩ = some (.slice (some ⟨tb, 0, none⟩) len c))) := ⟨_, fun _ _ => Iff.rfl⟩
  refine wp_region_noPanic ?_
  refine wp_region_G SSq 22 #[false, false, false, false, false, false, false, false, false, false, false, false, false, false, false, false, false, false, false, false, false, false] (by kernel_rfl) (by kernel_rfl) (by kernel_rfl) ((hSSq _ _).2 (fun _ => ct)) (fun hCl hHeld => ?_)
  generalize w.drew = w2 at *
  refine reg_takeG 0 ?_ ?_ ?_ (by kernel_rfl) (by kernel_rfl) (by kernel_rfl) (fun _ _ _ h => h) ?_ ?_ ?_ hCl hHeld ?_
  rotate_left 2
  · simp only [List.getElem?_toArray, List.getElem?_cons_zero]; exact rfl
  · intro l w'; rw [hSSq, hSSq]; rw [getD_set_ne (i := 0) (j := 17) true (by decide)]
  · rfl
  · intro w' hA; clear hA; go_simp; try with_reducible rfl
  clear hCl hHeld
  intro hCl hHeld
  simp only [List.setIfInBounds_toArray, List.set_cons_zero] at hCl hHeld
  try simp only [Act.put]
  try simp only [List.setIfInBounds_toArray, List.set_cons_zero, List.set_cons_succ]
  refine reg_takeG 1 ?_ ?_ ?_ (by kernel_rfl) (by kernel_rfl) (by kernel_rfl) (fun _ _ _ h => h) ?_ ?_ ?_ hCl hHeld ?_
  rotate_left 2
  · simp only [List.getElem?_toArray, List.getElem?_cons_succ, List.getElem?_cons_zero]; exact rfl
  · intro l w'; rw [hSSq, hSSq]; rw [getD_set_ne (i := 1) (j := 17) true (by decide)]
  · rfl
  · intro w' hA; clear hA; go_simp; try with_reducible rfl
  clear hCl hHeld
  intro hCl hHeld
  simp only [List.setIfInBounds_toArray, List.set_cons_zero, List.set_cons_succ] at hCl hHeld
  try simp only [Act.put]
  try simp only [List.setIfInBounds_toArray, List.set_cons_zero, List.set_cons_succ]
  refine reg_takeG 2 ?_ ?_ ?_ (by kernel_rfl) (by kernel_rfl) (by kernel_rfl) (fun _ _ _ h => h) ?_ ?_ ?_ hCl hHeld ?_
  rotate_left 2
  · simp only [List.getElem?_toArray, List.getElem?_cons_succ, List.getElem?_cons_zero]; exact rfl
  · intro l w'; rw [hSSq, hSSq]; rw [getD_set_ne (i := 2) (j := 17) true (by decide)]
  · rfl
  · intro w' hA; clear hA; go_simp; try with_reducible rfl
  clear hCl hHeld
  intro hCl hHeld
  simp only [List.setIfInBounds_toArray, List.set_cons_zero, List.set_cons_succ] at hCl hHeld
  try simp only [Act.put]
  try simp only [List.setIfInBounds_toArray, List.set_cons_zero, List.set_cons_succ]
  refine reg_takeG 3 ?_ ?_ ?_ (by kernel_rfl) (by kernel_rfl) (by kernel_rfl) (fun _ _ _ h => h) ?_ ?_ ?_ hCl hHeld ?_
  rotate_left 2
  · simp only [List.getElem?_toArray, List.getElem?_cons_succ, List.getElem?_cons_zero]; exact rfl
  · intro l w'; rw [hSSq, hSSq]; rw [getD_set_ne (i := 3) (j := 17) true (by decide)]
  · rfl
  · intro w' hA; obtain ⟨l, hl, hi, hSl⟩ := hA; have hSl := (hSSq _ _).1 hSl; have hy0 := hSl; have hz0 := hy0 (hl.not (t := 17) (by kernel_rfl) hi); go_simp; try with_reducible rfl
  clear hCl hHeld
  intro hCl hHeld
  simp only [List.setIfInBounds_toArray, List.set_cons_zero, List.set_cons_succ] at hCl hHeld
  try simp only [Act.put]
  try simp only [List.setIfInBounds_toArray, List.set_cons_zero, List.set_cons_succ]
  refine reg_takeG 4 ?_ ?_ ?_ (by kernel_rfl) (by kernel_rfl) (by kernel_rfl) (fun _ _ _ h => h) ?_ ?_ ?_ hCl hHeld ?_
  rotate_left 2
  · simp only [List.getElem?_toArray, List.getElem?_cons_succ, List.getElem?_cons_zero]; exact rfl
  · intro l w'; rw [hSSq, hSSq]; rw [getD_set_ne (i := 4) (j := 17) true (by decide)]
  · rfl
  · intro w' hA; clear hA; go_simp; try with_reducible rfl
  clear hCl hHeld
  intro hCl hHeld
  simp only [List.setIfInBounds_toArray, List.set_cons_zero, List.set_cons_succ] at hCl hHeld
  try simp only [Act.put]
  try simp only [List.setIfInBounds_toArray, List.set_cons_zero, List.set_cons_succ]
  refine reg_takeG 5 ?_ ?_ ?_ (by kernel_rfl) (by kernel_rfl) (by kernel_rfl) (fun _ _ _ h => h) ?_ ?_ ?_ hCl hHeld ?_
  rotate_left 2
  · simp only [List.getElem?_toArray, List.getElem?_cons_succ, List.getElem?_cons_zero]; exact rfl
  · intro l w'; rw [hSSq, hSSq]; rw [getD_set_ne (i := 5) (j := 17) true (by decide)]
  · rfl
  · intro w' hA; clear hA; go_simp; try with_reducible rfl
  clear hCl hHeld
  intro hCl hHeld
  simp only [List.setIfInBounds_toArray, List.set_cons_zero, List.set_cons_succ] at hCl hHeld
  try simp only [Act.put]
  try simp only [List.setIfInBounds_toArray, List.set_cons_zero, List.set_cons_succ]
  refine reg_takeG 6 ?_ ?_ ?_ (by kernel_rfl) (by kernel_rfl) (by kernel_rfl) (fun _ _ _ h => h) ?_ ?_ ?_ hCl hHeld ?_
  rotate_left 2
  · simp only [List.getElem?_toArray, List.getElem?_cons_succ, List.getElem?_cons_zero]; exact rfl
  · intro l w'; rw [hSSq, hSSq]; rw [getD_set_ne (i := 6) (j := 17) true (by decide)]
  · rfl
  · intro w' hA; clear hA; go_simp; try with_reducible rfl
  clear hCl hHeld
  intro hCl hHeld
  simp only [List.setIfInBounds_toArray, List.set_cons_zero, List.set_cons_succ] at hCl hHeld
  try simp only [Act.put]
  try simp only [List.setIfInBounds_toArray, List.set_cons_zero, List.set_cons_succ]
  refine reg_takeG 7 ?_ ?_ ?_ (by kernel_rfl) (by kernel_rfl) (by kernel_rfl) (fun _ _ _ h => h) ?_ ?_ ?_ hCl hHeld ?_
  rotate_left 2
  · simp only [List.getElem?_toArray, List.getElem?_cons_succ, List.getElem?_cons_zero]; exact rfl
  · intro l w'; rw [hSSq, hSSq]; rw [getD_set_ne (i := 7) (j := 17) true (by decide)]
  · rfl
  · intro w' hA; clear hA; go_simp; try with_reducible rfl
  clear hCl hHeld
  intro hCl hHeld
  simp only [List.setIfInBounds_toArray, List.set_cons_zero, List.set_cons_succ] at hCl hHeld
  try simp only [Act.put]
  try simp only [List.setIfInBounds_toArray, List.set_cons_zero, List.set_cons_succ]
  refine reg_takeG 8 ?_ ?_ ?_ (by kernel_rfl) (by kernel_rfl) (by kernel_rfl) (fun _ _ _ h => h) ?_ ?_ ?_ hCl hHeld ?_
  rotate_left 2
  · simp only [List.getElem?_toArray, List.getElem?_cons_succ, List.getElem?_cons_zero]; exact rfl
  · intro l w'; rw [hSSq, hSSq]; rw [getD_set_ne (i := 8) (j := 17) true (by decide)]
  · rfl
  · intro w' hA; clear hA; go_simp; try with_reducible rfl
  clear hCl hHeld
  intro hCl hHeld
  simp only [List.setIfInBounds_toArray, List.set_cons_zero, List.set_cons_succ] at hCl hHeld
  try simp only [Act.put]
  try simp only [List.setIfInBounds_toArray, List.set_cons_zero, List.set_cons_succ]
  refine reg_takeG 9 ?_ ?_ ?_ (by kernel_rfl) (by kernel_rfl) (by kernel_rfl) (fun _ _ _ h => h) ?_ ?_ ?_ hCl hHeld ?_
  rotate_left 2
  · simp only [List.getElem?_toArray, List.getElem?_cons_succ, List.getElem?_cons_zero]; exact rfl
  · intro l w'; rw [hSSq, hSSq]; rw [getD_set_ne (i := 9) (j := 17) true (by decide)]
  · rfl
  · intro w' hA; obtain ⟨l, hl, hi, hSl⟩ := hA; have hSl := (hSSq _ _).1 hSl; have hy0 := hSl; have hz0 := hy0 (hl.not (t := 17) (by kernel_rfl) hi); go_simp; try with_reducible rfl
  clear hCl hHeld
  intro hCl hHeld
  simp only [List.setIfInBounds_toArray, List.set_cons_zero, List.set_cons_succ] at hCl hHeld
  try simp only [Act.put]
  try simp only [List.setIfInBounds_toArray, List.set_cons_zero, List.set_cons_succ]
  refine reg_takeG 10 ?_ ?_ ?_ (by kernel_rfl) (by kernel_rfl) (by kernel_rfl) (fun _ _ _ h => h) ?_ ?_ ?_ hCl hHeld ?_
  rotate_left 2
  · simp only [List.getElem?_toArray, List.getElem?_cons_succ, List.getElem?_cons_zero]; exact rfl
  · intro l w'; rw [hSSq, hSSq]; rw [getD_set_ne (i := 10) (j := 17) true (by decide)]
  · rfl
  · intro w' hA; clear hA; go_simp; try with_reducible rfl
  clear hCl hHeld
  intro hCl hHeld
  simp only [List.setIfInBounds_toArray, List.set_cons_zero, List.set_cons_succ] at hCl hHeld
  try simp only [Act.put]
  try simp only [List.setIfInBounds_toArray, List.set_cons_zero, List.set_cons_succ]
  refine reg_takeG 11 ?_ ?_ ?_ (by kernel_rfl) (by kernel_rfl) (by kernel_rfl) (fun _ _ _ h => h) ?_ ?_ ?_ hCl hHeld ?_
  rotate_left 2
  · simp only [List.getElem?_toArray, List.getElem?_cons_succ, List.getElem?_cons_zero]; exact rfl
  · intro l w'; rw [hSSq, hSSq]; rw [getD_set_ne (i := 11) (j := 17) true (by decide)]
  · rfl
  · intro w' hA; clear hA; go_simp; try with_reducible rfl
  clear hCl hHeld
  intro hCl hHeld
  simp only [List.setIfInBounds_toArray, List.set_cons_zero, List.set_cons_succ] at hCl hHeld
  try simp only [Act.put]
  try simp only [List.setIfInBounds_toArray, List.set_cons_zero, List.set_cons_succ]
  refine reg_takeG 12 ?_ ?_ ?_ (by kernel_rfl) (by kernel_rfl) (by kernel_rfl) (fun _ _ _ h => h) ?_ ?_ ?_ hCl hHeld ?_
  rotate_left 2
  · simp only [List.getElem?_toArray, List.getElem?_cons_succ, List.getElem?_cons_zero]; exact rfl
  · intro l w'; rw [hSSq, hSSq]; rw [getD_set_ne (i := 12) (j := 17) true (by decide)]
  · rfl
  · intro w' hA; clear hA; go_simp; try with_reducible rfl
  clear hCl hHeld
  intro hCl hHeld
  simp only [List.setIfInBounds_toArray, List.set_cons_zero, List.set_cons_succ] at hCl hHeld
  try simp only [Act.put]
  try simp only [List.setIfInBounds_toArray, List.set_cons_zero, List.set_cons_succ]
  refine reg_takeG 13 ?_ ?_ ?_ (by kernel_rfl) (by kernel_rfl) (by kernel_rfl) (fun _ _ _ h => h) ?_ ?_ ?_ hCl hHeld ?_
  rotate_left 2
  · simp only [List.getElem?_toArray, List.getElem?_cons_succ, List.getElem?_cons_zero]; exact rfl
  · intro l w'; rw [hSSq, hSSq]; rw [getD_set_ne (i := 13) (j := 17) true (by decide)]
  · rfl
  · intro w' hA; clear hA; go_simp; try with_reducible rfl
  clear hCl hHeld
  intro hCl hHeld
  simp only [List.setIfInBounds_toArray, List.set_cons_zero, List.set_cons_succ] at hCl hHeld
  try simp only [Act.put]
  try simp only [List.setIfInBounds_toArray, List.set_cons_zero, List.set_cons_succ]
  refine reg_takeG 14 ?_ ?_ ?_ (by kernel_rfl) (by kernel_rfl) (by kernel_rfl) (fun _ _ _ h => h) ?_ ?_ ?_ hCl hHeld ?_
  rotate_left 2
  · simp only [List.getElem?_toArray, List.getElem?_cons_succ, List.getElem?_cons_zero]; exact rfl
  · intro l w'; rw [hSSq, hSSq]; rw [getD_set_ne (i := 14) (j := 17) true (by decide)]
  · rfl
  · intro w' hA; clear hA; go_simp; try with_reducible rfl
  clear hCl hHeld
  intro hCl hHeld
  simp only [List.setIfInBounds_toArray, List.set_cons_zero, List.set_cons_succ] at hCl hHeld
  try simp only [Act.put]
  try simp only [List.setIfInBounds_toArray, List.set_cons_zero, List.set_cons_succ]
  refine reg_takeG 15 ?_ ?_ ?_ (by kernel_rfl) (by kernel_rfl) (by kernel_rfl) (fun _ _ _ h => h) ?_ ?_ ?_ hCl hHeld ?_
  rotate_left 2
  · simp only [List.getElem?_toArray, List.getElem?_cons_succ, List.getElem?_cons_zero]; exact rfl
  · intro l w'; rw [hSSq, hSSq]; rw [getD_set_ne (i := 15) (j := 17) true (by decide)]
  · rfl
  · intro w' hA; clear hA; go_simp; try with_reducible rfl
  clear hCl hHeld
  intro hCl hHeld
  simp only [List.setIfInBounds_toArray, List.set_cons_zero, List.set_cons_succ] at hCl hHeld
  try simp only [Act.put]
  try simp only [List.setIfInBounds_toArray, List.set_cons_zero, List.set_cons_succ]
  refine reg_takeG 16 ?_ ?_ ?_ (by kernel_rfl) (by kernel_rfl) (by kernel_rfl) (fun _ _ _ h => h) ?_ ?_ ?_ hCl hHeld ?_
  rotate_left 2
  · simp only [List.getElem?_toArray, List.getElem?_cons_succ, List.getElem?_cons_zero]; exact rfl
  · intro l w'; rw [hSSq, hSSq]; rw [getD_set_ne (i := 16) (j := 17) true (by decide)]
  · rfl
  · intro w' hA; clear hA; go_simp; try with_reducible rfl
  clear hCl hHeld
  intro hCl hHeld
  simp only [List.setIfInBounds_toArray, List.set_cons_zero, List.set_cons_succ] at hCl hHeld
  try simp only [Act.put]
  try simp only [List.setIfInBounds_toArray, List.set_cons_zero, List.set_cons_succ]
  refine reg_takeG 18 ?_ ?_ ?_ (by kernel_rfl) (by kernel_rfl) (by kernel_rfl) (fun _ _ _ h => h) ?_ ?_ ?_ hCl hHeld ?_
  rotate_left 2
  · simp only [List.getElem?_toArray, List.getElem?_cons_succ, List.getElem?_cons_zero]; exact rfl
  · intro l w'; rw [hSSq, hSSq]; rw [getD_set_ne (i := 18) (j := 17) true (by decide)]
  · rfl
  · intro w' hA; clear hA; go_simp; try with_reducible rfl
  clear hCl hHeld
  intro hCl hHeld
  simp only [List.setIfInBounds_toArray, List.set_cons_zero, List.set_cons_succ] at hCl hHeld
  try simp only [Act.put]
  try simp only [List.setIfInBounds_toArray, List.set_cons_zero, List.set_cons_succ]
  refine reg_takeG 19 ?_ ?_ ?_ (by kernel_rfl) (by kernel_rfl) (by kernel_rfl) (fun _ _ _ h => h) ?_ ?_ ?_ hCl hHeld ?_
  rotate_left 2
  · simp only [List.getElem?_toArray, List.getElem?_cons_succ, List.getElem?_cons_zero]; exact rfl
  · intro l w'; rw [hSSq, hSSq]; rw [getD_set_ne (i := 19) (j := 17) true (by decide)]
  · rfl
  · intro w' hA; clear hA; go_simp; try with_reducible rfl
  clear hCl hHeld
  intro hCl hHeld
  simp only [List.setIfInBounds_toArray, List.set_cons_zero, List.set_cons_succ] at hCl hHeld
  try simp only [Act.put]
  try simp only [List.setIfInBounds_toArray, List.set_cons_zero, List.set_cons_succ]
  clear hCl hHeld
  refine reg_callG 17 ?_ (by kernel_rfl) ?_ (fun K hK => ?_)
  rotate_left 1
  · simp only [List.getElem?_toArray, List.getElem?_cons_succ, List.getElem?_cons_zero]; exact rfl
  go_simp
  refine hK.out _ _ ((hSSq _ _).2 (fun h => absurd h (by decide))) ?_
  clear hK K
  try simp only [Act.put]
  try simp only [List.setIfInBounds_toArray, List.set_cons_zero, List.set_cons_succ]
  refine reg_callG 20 ?_ (by kernel_rfl) ?_ (fun K hK => ?_)
  rotate_left 1
  · simp only [List.getElem?_toArray, List.getElem?_cons_succ, List.getElem?_cons_zero]; exact rfl
  go_simp
  refine hK.out _ _ ((hSSq _ _).2 (fun h => absurd h (by decide))) ?_
  clear hK K
  try simp only [Act.put]
  try simp only [List.setIfInBounds_toArray, List.set_cons_zero, List.set_cons_succ]
  refine reg_callG 21 ?_ (by kernel_rfl) ?_ (fun K hK => ?_)
  rotate_left 1
  · simp only [List.getElem?_toArray, List.getElem?_cons_succ, List.getElem?_cons_zero]; exact rfl
  go_simp
  refine hK.out _ _ ((hSSq _ _).2 (fun h => absurd h (by decide))) ?_
  clear hK K
  try simp only [Act.put]
  try simp only [List.setIfInBounds_toArray, List.set_cons_zero, List.set_cons_succ]
  refine wpAnyG_done (by kernel_rfl) ?_ _
  refine NoPanic.normal ?_
  clear hSSq SSq
  clear a1 a2 a3 a4 ct
  go_wp2
  obtain ⟨SSr, hSSr⟩ : ∃ S : Array Bool → World → Prop, ∀ l w', S l w' ↔ ((l.getD 17 true = false → w'.cell? ⟨mb, 1, none⟩ = some (.slice (some ⟨tb, 0, none⟩) len c))) := ⟨_, fun _ _ => Iff.rfl⟩
  refine wp_region_noPanic ?_
  refine wp_region_G SSr 22 #[false, false, false, false, false, false, false, false, false, false, false, false, false, false, false, false, false, false, false, false, false, false] (by kernel_rfl) (by kernel_rfl) (by kernel_rfl) ((hSSr _ _).2 (fun _ => ct2)) (fun hCl hHeld => ?_)
  generalize ((w2.setCell ⟨tb, t * 9 + 3 + i, none⟩ (.int .i64 (u : Int))).setCell ⟨tb, t * 9 + 6 + i, none⟩ (.bool f)).drew = w5 at *
  refine reg_takeG 0 ?_ ?_ ?_ (by kernel_rfl) (by kernel_rfl) (by kernel_rfl) (fun _ _ _ h => h) ?_ ?_ ?_ hCl hHeld ?_
  rotate_left 2
  · simp only [List.getElem?_toArray, List.getElem?_cons_zero]; exact rfl
  · intro l w'; rw [hSSr, hSSr]; rw [getD_set_ne (i := 0) (j := 17) true (by decide)]
  · rfl
  · intro w' hA; clear hA; go_simp; try with_reducible rfl
  clear hCl hHeld
  intro hCl hHeld
  simp only [List.setIfInBounds_toArray, List.set_cons_zero] at hCl hHeld
  try simp only [Act.put]
  try simp only [List.setIfInBounds_toArray, List.set_cons_zero, List.set_cons_succ]
  refine reg_takeG 1 ?_ ?_ ?_ (by kernel_rfl) (by kernel_rfl) (by kernel_rfl) (fun _ _ _ h => h) ?_ ?_ ?_ hCl hHeld ?_
  rotate_left 2
  · simp only [List.getElem?_toArray, List.getElem?_cons_succ, List.getElem?_cons_zero]; exact rfl
  · intro l w'; rw [hSSr, hSSr]; rw [getD_set_ne (i := 1) (j := 17) true (by decide)]
  · rfl
  · intro w' hA; clear hA; go_simp; try with_reducible rfl
  clear hCl hHeld
  intro hCl hHeld
  simp only [List.setIfInBounds_toArray, List.set_cons_zero, List.set_cons_succ] at hCl hHeld
  try simp only [Act.put]
  try simp only [List.setIfInBounds_toArray, List.set_cons_zero, List.set_cons_succ]
  refine reg_takeG 2 ?_ ?_ ?_ (by kernel_rfl) (by kernel_rfl) (by kernel_rfl) (fun _ _ _ h => h) ?_ ?_ ?_ hCl hHeld ?_
  rotate_left 2
  · simp only [List.getElem?_toArray, List.getElem?_cons_succ, List.getElem?_cons_zero]; exact rfl
  · intro l w'; rw [hSSr, hSSr]; rw [getD_set_ne (i := 2) (j := 17) true (by decide)]
  · rfl
  · intro w' hA; clear hA; go_simp; try with_reducible rfl
  clear hCl hHeld
  intro hCl hHeld
  simp only [List.setIfInBounds_toArray, List.set_cons_zero, List.set_cons_succ] at hCl hHeld
  try simp only [Act.put]
  try simp only [List.setIfInBounds_toArray, List.set_cons_zero, List.set_cons_succ]
  refine reg_takeG 3 ?_ ?_ ?_ (by kernel_rfl) (by kernel_rfl) (by kernel_rfl) (fun _ _ _ h => h) ?_ ?_ ?_ hCl hHeld ?_
  rotate_left 2
  · simp only [List.getElem?_toArray, List.getElem?_cons_succ, List.getElem?_cons_zero]; exact rfl
  · intro l w'; rw [hSSr, hSSr]; rw [getD_set_ne (i := 3) (j := 17) true (by decide)]
  · rfl
  · intro w' hA; obtain ⟨l, hl, hi, hSl⟩ := hA; have hSl := (hSSr _ _).1 hSl; have hy0 := hSl; have hz0 := hy0 (hl.not (t := 17) (by kernel_rfl) hi); go_simp; try with_reducible rfl
  clear hCl hHeld
  intro hCl hHeld
  simp only [List.setIfInBounds_toArray, List.set_cons_zero, List.set_cons_succ] at hCl hHeld
  try simp only [Act.put]
  try simp only [List.setIfInBounds_toArray, List.set_cons_zero, List.set_cons_succ]
  refine reg_takeG 4 ?_ ?_ ?_ (by kernel_rfl) (by kernel_rfl) (by kernel_rfl) (fun _ _ _ h => h) ?_ ?_ ?_ hCl hHeld ?_
  rotate_left 2
  · simp only [List.getElem?_toArray, List.getElem?_cons_succ, List.getElem?_cons_zero]; exact rfl
  · intro l w'; rw [hSSr, hSSr]; rw [getD_set_ne (i := 4) (j := 17) true (by decide)]
  · rfl
  · intro w' hA; clear hA; go_simp; try with_reducible rfl
  clear hCl hHeld
  intro hCl hHeld
  simp only [List.setIfInBounds_toArray, List.set_cons_zero, List.set_cons_succ] at hCl hHeld
  try simp only [Act.put]
  try simp only [List.setIfInBounds_toArray, List.set_cons_zero, List.set_cons_succ]
  refine reg_takeG 5 ?_ ?_ ?_ (by kernel_rfl) (by kernel_rfl) (by kernel_rfl) (fun _ _ _ h => h) ?_ ?_ ?_ hCl hHeld ?_
  rotate_left 2
  · simp only [List.getElem?_toArray, List.getElem?_cons_succ, List.getElem?_cons_zero]; exact rfl
  · intro l w'; rw [hSSr, hSSr]; rw [getD_set_ne (i := 5) (j := 17) true (by decide)]
  · rfl
  · intro w' hA; clear hA; go_simp; try with_reducible rfl
  clear hCl hHeld
  intro hCl hHeld
  simp only [List.setIfInBounds_toArray, List.set_cons_zero, List.set_cons_succ] at hCl hHeld
  try simp only [Act.put]
  try simp only [List.setIfInBounds_toArray, List.set_cons_zero, List.set_cons_succ]
  refine reg_takeG 6 ?_ ?_ ?_ (by kernel_rfl) (by kernel_rfl) (by kernel_rfl) (fun _ _ _ h => h) ?_ ?_ ?_ hCl hHeld ?_
  rotate_left 2
  · simp only [List.getElem?_toArray, List.getElem?_cons_succ, List.getElem?_cons_zero]; exact rfl
  · intro l w'; rw [hSSr, hSSr]; rw [getD_set_ne (i := 6) (j := 17) true (by decide)]
  · rfl
  · intro w' hA; clear hA; go_simp; try with_reducible rfl
  clear hCl hHeld
  intro hCl hHeld
  simp only [List.setIfInBounds_toArray, List.set_cons_zero, List.set_cons_succ] at hCl hHeld
  try simp only [Act.put]
  try simp only [List.setIfInBounds_toArray, List.set_cons_zero, List.set_cons_succ]
  refine reg_takeG 7 ?_ ?_ ?_ (by kernel_rfl) (by kernel_rfl) (by kernel_rfl) (fun _ _ _ h => h) ?_ ?_ ?_ hCl hHeld ?_
  rotate_left 2
  · simp only [List.getElem?_toArray, List.getElem?_cons_succ, List.getElem?_cons_zero]; exact rfl
  · intro l w'; rw [hSSr, hSSr]; rw [getD_set_ne (i := 7) (j := 17) true (by decide)]
  · rfl
  · intro w' hA; clear hA; go_simp; try with_reducible rfl
  clear hCl hHeld
  intro hCl hHeld
  simp only [List.setIfInBounds_toArray, List.set_cons_zero, List.set_cons_succ] at hCl hHeld
  try simp only [Act.put]
  try simp only [List.setIfInBounds_toArray, List.set_cons_zero, List.set_cons_succ]
  refine reg_takeG 8 ?_ ?_ ?_ (by kernel_rfl) (by kernel_rfl) (by kernel_rfl) (fun _ _ _ h => h) ?_ ?_ ?_ hCl hHeld ?_
  rotate_left 2
  · simp only [List.getElem?_toArray, List.getElem?_cons_succ, List.getElem?_cons_zero]; exact rfl
  · intro l w'; rw [hSSr, hSSr]; rw [getD_set_ne (i := 8) (j := 17) true (by decide)]
  · rfl
  · intro w' hA; clear hA; go_simp; try with_reducible rfl
  clear hCl hHeld
  intro hCl hHeld
  simp only [List.setIfInBounds_toArray, List.set_cons_zero, List.set_cons_succ] at hCl hHeld
  try simp only [Act.put]
  try simp only [List.setIfInBounds_toArray, List.set_cons_zero, List.set_cons_succ]
  refine reg_takeG 9 ?_ ?_ ?_ (by kernel_rfl) (by kernel_rfl) (by kernel_rfl) (fun _ _ _ h => h) ?_ ?_ ?_ hCl hHeld ?_
  rotate_left 2
  · simp only [List.getElem?_toArray, List.getElem?_cons_succ, List.getElem?_cons_zero]; exact rfl
  · intro l w'; rw [hSSr, hSSr]; rw [getD_set_ne (i := 9) (j := 17) true (by decide)]
  · rfl
  · intro w' hA; obtain ⟨l, hl, hi, hSl⟩ := hA; have hSl := (hSSr _ _).1 hSl; have hy0 := hSl; have hz0 := hy0 (hl.not (t := 17) (by kernel_rfl) hi); go_simp; try with_reducible rfl
  clear hCl hHeld
  intro hCl hHeld
  simp only [List.setIfInBounds_toArray, List.set_cons_zero, List.set_cons_succ] at hCl hHeld
  try simp only [Act.put]
  try simp only [List.setIfInBounds_toArray, List.set_cons_zero, List.set_cons_succ]
  refine reg_takeG 10 ?_ ?_ ?_ (by kernel_rfl) (by kernel_rfl) (by kernel_rfl) (fun _ _ _ h => h) ?_ ?_ ?_ hCl hHeld ?_
  rotate_left 2
  · simp only [List.getElem?_toArray, List.getElem?_cons_succ, List.getElem?_cons_zero]; exact rfl
  · intro l w'; rw [hSSr, hSSr]; rw [getD_set_ne (i := 10) (j := 17) true (by decide)]
  · rfl
  · intro w' hA; clear hA; go_simp; try with_reducible rfl
  clear hCl hHeld
  intro hCl hHeld
  simp only [List.setIfInBounds_toArray, List.set_cons_zero, List.set_cons_succ] at hCl hHeld
  try simp only [Act.put]
  try simp only [List.setIfInBounds_toArray, List.set_cons_zero, List.set_cons_succ]
  refine reg_takeG 11 ?_ ?_ ?_ (by kernel_rfl) (by kernel_rfl) (by kernel_rfl) (fun _ _ _ h => h) ?_ ?_ ?_ hCl hHeld ?_
  rotate_left 2
  · simp only [List.getElem?_toArray, List.getElem?_cons_succ, List.getElem?_cons_zero]; exact rfl
  · intro l w'; rw [hSSr, hSSr]; rw [getD_set_ne (i := 11) (j := 17) true (by decide)]
  · rfl
  · intro w' hA; clear hA; go_simp; try with_reducible rfl
  clear hCl hHeld
  intro hCl hHeld
  simp only [List.setIfInBounds_toArray, List.set_cons_zero, List.set_cons_succ] at hCl hHeld
  try simp only [Act.put]
  try simp only [List.setIfInBounds_toArray, List.set_cons_zero, List.set_cons_succ]
  refine reg_takeG 12 ?_ ?_ ?_ (by kernel_rfl) (by kernel_rfl) (by kernel_rfl) (fun _ _ _ h => h) ?_ ?_ ?_ hCl hHeld ?_
  rotate_left 2
  · simp only [List.getElem?_toArray, List.getElem?_cons_succ, List.getElem?_cons_zero]; exact rfl
  · intro l w'; rw [hSSr, hSSr]; rw [getD_set_ne (i := 12) (j := 17) true (by decide)]
  · rfl
  · intro w' hA; clear hA; go_simp; try with_reducible rfl
  clear hCl hHeld
  intro hCl hHeld
  simp only [List.setIfInBounds_toArray, List.set_cons_zero, List.set_cons_succ] at hCl hHeld
  try simp only [Act.put]
  try simp only [List.setIfInBounds_toArray, List.set_cons_zero, List.set_cons_succ]
  refine reg_takeG 13 ?_ ?_ ?_ (by kernel_rfl) (by kernel_rfl) (by kernel_rfl) (fun _ _ _ h => h) ?_ ?_ ?_ hCl hHeld ?_
  rotate_left 2
  · simp only [List.getElem?_toArray, List.getElem?_cons_succ, List.getElem?_cons_zero]; exact rfl
  · intro l w'; rw [hSSr, hSSr]; rw [getD_set_ne (i := 13) (j := 17) true (by decide)]
  · rfl
  · intro w' hA; clear hA; go_simp; try with_reducible rfl
  clear hCl hHeld
  intro hCl hHeld
  simp only [List.setIfInBounds_toArray, List.set_cons_zero, List.set_cons_succ] at hCl hHeld
  try simp only [Act.put]
  try simp only [List.setIfInBounds_toArray, List.set_cons_zero, List.set_cons_succ]
  refine reg_takeG 14 ?_ ?_ ?_ (by kernel_rfl) (by kernel_rfl) (by kernel_rfl) (fun _ _ _ h => h) ?_ ?_ ?_ hCl hHeld ?_
  rotate_left 2
  · simp only [List.getElem?_toArray, List.getElem?_cons_succ, List.getElem?_cons_zero]; exact rfl
  · intro l w'; rw [hSSr, hSSr]; rw [getD_set_ne (i := 14) (j := 17) true (by decide)]
  · rfl
  · intro w' hA; clear hA; go_simp; try with_reducible rfl
  clear hCl hHeld
  intro hCl hHeld
  simp only [List.setIfInBounds_toArray, List.set_cons_zero, List.set_cons_succ] at hCl hHeld
  try simp only [Act.put]
  try simp only [List.setIfInBounds_toArray, List.set_cons_zero, List.set_cons_succ]
  refine reg_takeG 15 ?_ ?_ ?_ (by kernel_rfl) (by kernel_rfl) (by kernel_rfl) (fun _ _ _ h => h) ?_ ?_ ?_ hCl hHeld ?_
  rotate_left 2
  · simp only [List.getElem?_toArray, List.getElem?_cons_succ, List.getElem?_cons_zero]; exact rfl
  · intro l w'; rw [hSSr, hSSr]; rw [getD_set_ne (i := 15) (j := 17) true (by decide)]
  · rfl
  · intro w' hA; clear hA; go_simp; try with_reducible rfl
  clear hCl hHeld
  intro hCl hHeld
  simp only [List.setIfInBounds_toArray, List.set_cons_zero, List.set_cons_succ] at hCl hHeld
  try simp only [Act.put]
  try simp only [List.setIfInBounds_toArray, List.set_cons_zero, List.set_cons_succ]
  refine reg_takeG 16 ?_ ?_ ?_ (by kernel_rfl) (by kernel_rfl) (by kernel_rfl) (fun _ _ _ h => h) ?_ ?_ ?_ hCl hHeld ?_
  rotate_left 2
  · simp only [List.getElem?_toArray, List.getElem?_cons_succ, List.getElem?_cons_zero]; exact rfl
  · intro l w'; rw [hSSr, hSSr]; rw [getD_set_ne (i := 16) (j := 17) true (by decide)]
  · rfl
  · intro w' hA; clear hA; go_simp; try with_reducible rfl
  clear hCl hHeld
  intro hCl hHeld
  simp only [List.setIfInBounds_toArray, List.set_cons_zero, List.set_cons_succ] at hCl hHeld
  try simp only [Act.put]
  try simp only [List.setIfInBounds_toArray, List.set_cons_zero, List.set_cons_succ]
  refine reg_takeG 18 ?_ ?_ ?_ (by kernel_rfl) (by kernel_rfl) (by kernel_rfl) (fun _ _ _ h => h) ?_ ?_ ?_ hCl hHeld ?_
  rotate_left 2
  · simp only [List.getElem?_toArray, List.getElem?_cons_succ, List.getElem?_cons_zero]; exact rfl
  · intro l w'; rw [hSSr, hSSr]; rw [getD_set_ne (i := 18) (j := 17) true (by decide)]
  · rfl
  · intro w' hA; clear hA; go_simp; try with_reducible rfl
  clear hCl hHeld
  intro hCl hHeld
  simp only [List.setIfInBounds_toArray, List.set_cons_zero, List.set_cons_succ] at hCl hHeld
  try simp only [Act.put]
  try simp only [List.setIfInBounds_toArray, List.set_cons_zero, List.set_cons_succ]
  refine reg_takeG 19 ?_ ?_ ?_ (by kernel_rfl) (by kernel_rfl) (by kernel_rfl) (fun _ _ _ h => h) ?_ ?_ ?_ hCl hHeld ?_
  rotate_left 2
  · simp only [List.getElem?_toArray, List.getElem?_cons_succ, List.getElem?_cons_zero]; exact rfl
  · intro l w'; rw [hSSr, hSSr]; rw [getD_set_ne (i := 19) (j := 17) true (by decide)]
  · rfl
  · intro w' hA; clear hA; go_simp; try with_reducible rfl
  clear hCl hHeld
  intro hCl hHeld
  simp only [List.setIfInBounds_toArray, List.set_cons_zero, List.set_cons_succ] at hCl hHeld
  try simp only [Act.put]
  try simp only [List.setIfInBounds_toArray, List.set_cons_zero, List.set_cons_succ]
  clear hCl hHeld
  refine reg_callG 17 ?_ (by kernel_rfl) ?_ (fun K hK => ?_)
  rotate_left 1
  · simp only [List.getElem?_toArray, List.getElem?_cons_succ, List.getElem?_cons_zero]; exact rfl
  go_simp
  refine hK.out _ _ ((hSSr _ _).2 (fun h => absurd h (by decide))) ?_
  clear hK K
  try simp only [Act.put]
  try simp only [List.setIfInBounds_toArray, List.set_cons_zero, List.set_cons_succ]
  refine reg_callG 20 ?_ (by kernel_rfl) ?_ (fun K hK => ?_)
  rotate_left 1
  · simp only [List.getElem?_toArray, List.getElem?_cons_succ, List.getElem?_cons_zero]; exact rfl
  go_simp
  refine hK.out _ _ ((hSSr _ _).2 (fun h => absurd h (by decide))) ?_
  clear hK K
  try simp only [Act.put]
  try simp only [List.setIfInBounds_toArray, List.set_cons_zero, List.set_cons_succ]
  refine reg_callG 21 ?_ (by kernel_rfl) ?_ (fun K hK => ?_)
  rotate_left 1
  · simp only [List.getElem?_toArray, List.getElem?_cons_succ, List.getElem?_cons_zero]; exact rfl
  go_simp
  refine hK.out _ _ ((hSSr _ _).2 (fun h => absurd h (by decide))) ?_
  clear hK K
  try simp only [Act.put]
  try simp only [List.setIfInBounds_toArray, List.set_cons_zero, List.set_cons_succ]
  refine wpAnyG_done (by kernel_rfl) ?_ _
  refine NoPanic.normal ?_
  clear hSSr SSr
  go_wp2
  go_end0
  exact ⟨rfl, HO3.out, HM.out⟩
set_option maxRecDepth 100000 in
set_option maxHeartbeats 16000000 in
theorem Drop_any {lo mb pb pc : Nat} {tv : Value} {P : List (Int × Int)} {S : List TriM} (t : Nat) (T : TriM) (w : World) (h : MeshO 62 49 w lo mb pb pc tv P S) (hT : S[t]? = some T) (hgT : goneB T = false) :
    Calls Try.prog 39 #[.pointer (some ⟨mb, 0, none⟩), .int .i64 (t : Int)] w fun e w' => e = .returned (.tuple #[]) ∧ MeshO 62 49 w' lo mb pb pc tv P (S.set t goneTri) ∧ Mut w w' mb tv tv := by
  obtain ⟨ta, tc, htv, hr⟩ := h.read
  have k1 := there_any (t : Int) w hr
  have g1 : thereB S (t : Int) = true := by unfold thereB; rw [getT_nat, hT]; simp [hgT]
  rw [g1] at k1
  obtain ⟨tb, c, rfl⟩ := h.slot hT
  have ltT := (List.getElem?_eq_some_iff.1 hT).1
  have hsh := h.short.2
  obtain ⟨ho, hm⟩ := h.setT (S' := S.set t goneTri) (t * 9) goneTri.cells (by simp) (setL_tri ltT goneTri)
  have hbx := owns_box h.row
  have hlx : t * 9 + goneTri.cells.length ≤ (triCells S).length := by rw [triCells_len, goneTri.cells_len]; omega
  have ct := h.box.c1
  obtain ⟨len, hlen⟩ : ∃ len, S.length = len := ⟨_, rfl⟩
  rw [hlen] at ct ltT
  obtain ⟨wn, hwn⟩ : ∃ wn, setAll w tb (t * 9) goneTri.cells = wn := ⟨_, rfl⟩
  rw [hwn] at ho hm
  have K1 := Lib.hid k1; have HO := Lib.hid ho; have HM := Lib.hid hm; have HBX := Lib.hid hbx; have HLX := Lib.hid hlx; have HWN := Lib.hid hwn
  have hb1 : (0 : Int) ≤ (t : Int) := by omega
  have hb2 : (t : Int) < (len : Int) := by omega
  clear k1 g1 ho hm hbx hlx hwn htv hr h hT hgT hlen hsh
  go_enter Try.func39, Try.ntmps39
  go_wp2_with fail
  refine K1.out.mono ?_
  rintro e w' ⟨rfl, rfl⟩
  go_wp2_with (with_reducible refine wpList_store_box rfl _ _ _ rfl goneTri.cells HBX.out rfl rfl (by kernel_rfl) HLX.out rfl HWN.out ?_)
  go_end0
  exact ⟨rfl, HO.out, HM.out⟩
end Go.Proofs.Ytecnnpkpgbbfkaa
/- mesh's writers: Make. -/
namespace Go.MagM
open Go.RowKit
def newT (a b c : Int) : TriM := ⟨a, b, c, -1, -1, -1, false, false, false⟩
/-- The first triangle that is gone. -/
def freeK (S : List TriM) : Option Nat := S.findIdx? goneB
def makeK (S : List TriM) : Nat := match freeK S with
  | some k => k
  | none => S.length
def makeM (S : List TriM) (a b c : Int) : List TriM := match freeK S with
  | some k => S.set k (newT a b c)
  | none => S ++ [newT a b c]
section
variable {P : Program}
/-- append: some slice comes, in the block where the first one lay, or in a new one. -/
theorem run_append_where (w : World) (base : Nat) (t ty e : TypeId) (i : TypeInfo) (z : Value) (size bytes : Nat) (ht : P.underlying t = some (.slice e)) (hi : P.info? e = some i) (hz : i.zero = some z)
    (hsize : i.size = size) (hby : i.bytes = bytes) (hzs : z.cells.size = size)
    (v : Value) (n : Nat) (xs : List Value) (hrow : w.ownsRow base e size v n xs)
    (a : Addr) (m c : Nat) (news : List Value) (hm0 : 0 < m) (hl : news.length = m * size) (hnews : ∀ j u, news[j]? = some u → w.cell? (a.add j) = some u) (h1 : ∀ u ∈ news, u.oneCell' = true)
    (h63 : n + m ≤ maxLen) (hbytes : (n + m) * bytes ≤ 140737488355328) (hbase : base ≤ w.heap.size) :
    ∃ v' w', (Builtin.append_ #[t, t] ty #[v, .slice (some a) m c]).run P w = .ok v' w' ∧ w'.ownsRow base e size v' (n + m) (xs ++ news) ∧ w.grownBy w' v.ownBlock ∧ (v'.ownBlock = v.ownBlock ∨ ∀ k, v'.ownBlock = some k → w.heap.size ≤ k) := by
  subst hsize
  subst hby
  have hlen : (xs ++ news).length = (n + m) * i.size := by rw [List.length_append, hrow.1, hl, Nat.add_mul]
  have grown : ∀ (old : Nat), old < n + m → ∀ (row : Option Nat),
      (w.drew.alloc (.cells (xs.toArray ++ news.toArray ++ Builtin.zeroCells z.cells (grownCap w (n + m) old e - (n + m))) e)).ownsRow base e i.size
        (.slice (some ⟨w.heap.size, 0, none⟩) (n + m) (grownCap w (n + m) old e)) (n + m) (xs ++ news) ∧
      w.grownBy (w.drew.alloc (.cells (xs.toArray ++ news.toArray ++ Builtin.zeroCells z.cells (grownCap w (n + m) old e - (n + m))) e)) row := by
    intro old ho row
    have hge := grownCap_ge w (n + m) old e
    have hcm : grownCap w (n + m) old e ≤ maxLen := grownCap_le_maxLen w (n + m) old e h63
    refine ⟨⟨hlen, .inr ⟨w.heap.size, _, _, rfl, hbase, heap_alloc_new w.drew _, hge, hcm, ?_, ?_⟩⟩, ⟨rfl, rfl, rfl, by simp, fun k hk _ => Below.heap_alloc w.drew _ k hk⟩⟩
    · simp only [Array.size_append, List.size_toArray, size_zeroCells, hzs, hrow.1, hl, ← Nat.add_mul]
      congr 1
      omega
    · simp only [Array.toList_append, List.append_assoc]
      rw [← List.append_assoc, ← hlen]
      exact List.take_left
  have hrow' := hrow
  rcases hrow.2 with ⟨rfl, rfl⟩ | ⟨g, cap, cur, rfl, hbg, hg, hnc, hcm, hcs, htake⟩
  · have hx : xs = [] := List.eq_nil_of_length_eq_zero (by simpa using hrow.1)
    subst hx
    have hr := run_append_nil (P := P) w t ty e i z ht hi hz a m c news hl hnews hm0 (by simp only [maxLen] at h63; omega) (by have hb := hbytes; simp only [Nat.zero_add] at hb; omega)
    have hgr := grown 0 (by omega) (Value.ownBlock (.slice none 0 0))
    simp only [Nat.zero_add, List.nil_append, Array.empty_append] at hgr ⊢
    exact ⟨_, _, hr, hgr.1, hgr.2, .inr fun k hk => by simp [Value.ownBlock] at hk; omega⟩
  · by_cases hroom : n + m ≤ cap
    · have hfit : n * i.size + news.length ≤ cur.size := by rw [hl, hcs, ← Nat.add_mul]; exact Nat.mul_le_mul_right _ hroom
      have hr := run_append_room (P := P) w t ty e i ht hi g n cap cur hg a m c news hl hnews h1 hroom hfit
      refine ⟨_, _, hr, ⟨hlen, .inr ⟨g, cap, _, rfl, hbg, setRow_heap w g cur _ e _ hg, hroom, hcm, ?_, ?_⟩⟩, ⟨rfl, rfl, rfl, by simp, fun k _ hk => setRow_other w g k _ (fun e => hk (by simp [Value.ownBlock, e]))⟩, .inl rfl⟩
      · simp only [List.size_toArray, List.length_append, List.length_take, List.length_drop, Array.length_toList]
        omega
      · rw [htake, ← hlen]
        exact List.take_left
    · have holds : ∀ j u, xs[j]? = some u → w.cell? ((⟨g, 0, none⟩ : Addr).add j) = some u := hrow'.cells (g := g) rfl
      have hr := run_append_grow (P := P) w t ty e i z ht hi hz ⟨g, 0, none⟩ n cap xs hrow'.1 holds a m c news hl hnews (by omega) (by simp only [maxLen] at h63; omega) (growslice_fits (by omega) hbytes)
      have hgr := grown cap (by omega) (Value.ownBlock (.slice (some ⟨g, 0, none⟩) n cap))
      exact ⟨_, _, hr, hgr.1, hgr.2, .inr fun k hk => by simp [Value.ownBlock] at hk; omega⟩
end
theorem Box.nine {w : World} {g : Nat} {u0 u1 u2 u3 u4 u5 u6 u7 u8 : Value} (h : Box w g [u0, u1, u2, u3, u4, u5, u6, u7, u8]) : w.cell? ⟨g, 0, none⟩ = some u0 ∧ w.cell? ⟨g, 1, none⟩ = some u1 ∧ w.cell? ⟨g, 2, none⟩ = some u2 ∧ w.cell? ⟨g, 3, none⟩ = some u3 ∧ w.cell? ⟨g, 4, none⟩ = some u4 ∧ w.cell? ⟨g, 5, none⟩ = some u5 ∧ w.cell? ⟨g, 6, none⟩ = some u6 ∧ w.cell? ⟨g, 7, none⟩ = some u7 ∧ w.cell? ⟨g, 8, none⟩ = some u8 :=
  ⟨h.c 0 _ rfl, h.c 1 _ rfl, h.c 2 _ rfl, h.c 3 _ rfl, h.c 4 _ rfl, h.c 5 _ rfl, h.c 6 _ rfl, h.c 7 _ rfl, h.c 8 _ rfl⟩
theorem Mut.drew {w w' : World} {mb : Nat} {tv tv' : Value} (h : Mut w w' mb tv tv') : Mut w w'.drew mb tv tv' := ⟨h.os, h.tape, h.output, h.size, h.keep⟩
theorem triCells_one' (T : TriM) : ∀ u ∈ T.cells, u.oneCell' = true := by
  intro u hu
  simp [TriM.cells] at hu
  rcases hu with rfl | rfl | rfl | rfl | rfl | rfl | rfl | rfl | rfl <;> rfl
end Go.MagM
namespace Go.Proofs.Ytecnnpkpgbbfkaa
open Go.RowKit Go.MagM
theorem infoT : (Try.prog.info? 49).map (fun i => (i.zero, i.size, i.bytes)) = some (some (.agg #[.int .i64 0, .int .i64 0, .int .i64 0, .int .i64 0, .int .i64 0, .int .i64 0, .bool false, .bool false, .bool false]), 9, 56) := by kernel_rfl
/-- What an append of one triangle leaves, once the mesh knows of it. -/
theorem make_end {p e : TypeId} {w w' : World} {lo mb pb pc tc g c len : Nat} {ta : Option Addr} {P : List (Int × Int)} {S : List TriM} {a b c' : Int} (h : MeshO p e w lo mb pb pc (.slice ta len tc) P S) (hlen : S.length = len)
    (hrow : w'.ownsRow lo e 9 (.slice (some ⟨g, 0, none⟩) (len + 1) c) (len + 1) (triCells S ++ (newT a b c').cells)) (hg : w.grownBy w' (Value.ownBlock (.slice ta len tc))) (hwh : Value.ownBlock (.slice (some ⟨g, 0, none⟩) (len + 1) c) = Value.ownBlock (.slice ta len tc) ∨ ∀ k, Value.ownBlock (.slice (some ⟨g, 0, none⟩) (len + 1) c) = some k → w.heap.size ≤ k) (hsh : len + 1 ≤ 1000000 := by omega) :
    Box w' mb [.slice (some ⟨pb, 0, none⟩) P.length pc, .slice ta len tc] ∧ w'.cell? ⟨mb, 1, none⟩ = some (.slice ta len tc) ∧ w'.frozen? ⟨mb, 1, none⟩ = false ∧
    MeshO p e (w'.setCell ⟨mb, 1, none⟩ (.slice (some ⟨g, 0, none⟩) (len + 1) c)) lo mb pb pc (.slice (some ⟨g, 0, none⟩) (len + 1) c) P (S ++ [newT a b c']) ∧ Mut w (w'.setCell ⟨mb, 1, none⟩ (.slice (some ⟨g, 0, none⟩) (len + 1) c)) mb (.slice ta len tc) (.slice (some ⟨g, 0, none⟩) (len + 1) c) := by
  have hbx : Box w' mb [.slice (some ⟨pb, 0, none⟩) P.length pc, .slice ta len tc] := h.box.grown hg (fun e => h.apart.1 e) h.low.2.1
  have hs := hbx.set 1 (.slice (some ⟨g, 0, none⟩) (len + 1) c)
  have hgk : ∀ k, k < w.heap.size → Value.ownBlock (.slice ta len tc) ≠ some k → g ≠ k := by
    intro k hk hne e
    subst e
    rcases hwh with h1 | h1
    · exact hne (by rw [← h1]; rfl)
    · have := h1 g rfl; omega
  have hgm := hgk mb h.low.2.1 h.apart.1
  have hgp := hgk pb h.low.2.2.1 h.apart.2
  have htu : Turned w' (w'.setCell ⟨mb, 1, none⟩ (.slice (some ⟨g, 0, none⟩) (len + 1) c)) mb := (Turned.refl _ _).setCell 1 _
  have hlen1 : (S ++ [newT a b c']).length = len + 1 := by simp [hlen]
  have htc : triCells (S ++ [newT a b c']) = triCells S ++ (newT a b c').cells := by rw [triCells_app]; simp [triCells]
  have hsz := hg.size
  have hlow := h.low
  refine ⟨hbx, hbx.c1, hbx.f 1 _ rfl, ⟨hs, ?_, ?_, ?_, ⟨fun e => ?_, fun e => ?_⟩, ?_⟩, ⟨hg.os, hg.tape, hg.output, by rw [htu.size]; exact hg.size, fun k hk h1 h2 => ⟨?_, fun e => ?_⟩⟩⟩
  · refine owns_same h.prow fun k hk => ?_
    obtain rfl : k = pb := (by simpa [Value.ownBlock] using hk.symm)
    exact (htu.block _ hlow.2.2.2).trans (hg.block _ hlow.2.2.1 (fun e => h.apart.2 e.symm))
  · rw [hlen1, htc]
    exact owns_turned hrow htu (fun e => hgm (by simpa [Value.ownBlock] using e))
  · rw [htu.size]; omega
  · exact hgm (by simpa [Value.ownBlock] using e)
  · exact hgp (by simpa [Value.ownBlock] using e)
  · rw [hlen1]; exact ⟨h.short.1, hsh⟩
  · exact (htu.block k h1).trans (hg.block k hk (fun e => h2 e.symm))
  · exact hgk k hk h2 (by simpa [Value.ownBlock] using e)
set_option maxRecDepth 100000 in
set_option maxHeartbeats 16000000 in
theorem mkTri_any {lo mb pb pc : Nat} {tv : Value} {P : List (Int × Int)} {S : List TriM} (a b c : Int) (w : World) (h : MeshO 62 49 w lo mb pb pc tv P S) (hroom : S.length + 1 ≤ 1000000) :
    Calls Try.prog 37 #[.pointer (some ⟨mb, 0, none⟩), .int .i64 a, .int .i64 b, .int .i64 c] w fun e w' => ∃ tv', e = .returned (.int .i64 (makeK S : Nat)) ∧ MeshO 62 49 w' lo mb pb pc tv' P (makeM S a b c) ∧ Mut w w' mb tv tv' := by
  obtain ⟨i0, hi, hz0, hz1, hz2⟩ := info_parts infoT
  have HI := Lib.hid hi; have HZ0 := Lib.hid hz0; have HZ1 := Lib.hid hz1; have HZ2 := Lib.hid hz2
  clear hi hz0 hz1 hz2
  obtain ⟨ta, tc, rfl, hr⟩ := h.read
  obtain ⟨wz, hwz, pz_0, hbz, hsz⟩ := new_box w _ rfl [.int .i64 0, .int .i64 0, .int .i64 0, .int .i64 0, .int .i64 0, .int .i64 0, .bool false, .bool false, .bool false] 49
  obtain ⟨w1, hw1⟩ : ∃ w1, setAll wz w.heap.size 0 [.int .i64 a, .int .i64 b, .int .i64 c, .int .i64 (-1), .int .i64 (-1), .int .i64 (-1), .bool false, .bool false, .bool false] = w1 := ⟨_, rfl⟩
  have px_0 : Box w1 w.heap.size [.int .i64 a, .int .i64 b, .int .i64 c, .int .i64 (-1), .int .i64 (-1), .int .i64 (-1), .bool false, .bool false, .bool false] := by rw [← hw1]; exact pz_0.setAll [.int .i64 a, .int .i64 b, .int .i64 c, .int .i64 (-1), .int .i64 (-1), .int .i64 (-1), .bool false, .bool false, .bool false] rfl
  have hb1 : Below w.heap.size w w1 := by rw [← hw1]; exact below_setAll hbz (Nat.le_refl _) _
  have HPZ := Lib.hid pz_0; have HW1 := Lib.hid hw1
  clear pz_0 hbz hsz hw1
  have ho1 := h.below hb1
  have hr1 := hr.below hb1
  have hm1 : Mut w w1 mb (.slice ta S.length tc) (.slice ta S.length tc) := Mut.of_below hb1 (fun k hk => (h.row.lt k hk).2)
  obtain ⟨len, hlen⟩ : ∃ len, S.length = len := ⟨_, rfl⟩
  have HLEN := Lib.hid hlen
  have H1 := Lib.hid ho1; have HR1 := Lib.hid hr1; have HM1 := Lib.hid hm1
  rw [hlen] at hroom
  have b0 := ho1.box.c0; have b1 := ho1.box.c1
  rw [hlen] at b1
  obtain ⟨x0, x1, x2, x3, x4, x5, x6, x7, x8⟩ := px_0.nine
  obtain ⟨r, hrk⟩ : ∃ r, makeK S = r := ⟨_, rfl⟩
  obtain ⟨S', hS'⟩ : ∃ S', makeM S a b c = S' := ⟨_, rfl⟩
  rw [hrk, hS']
  have HRK := Lib.hid hrk; have HS' := Lib.hid hS'
  rw [hlen]
  clear h hr ho1 hr1 hm1 hlen hrk hS'
  go_enter Try.func37, Try.ntmps37
  go_wp2_with (with_reducible refine wpList_store_box rfl _ _ _ rfl [.int .i64 a, .int .i64 b, .int .i64 c, .int .i64 (-1), .int .i64 (-1), .int .i64 (-1), .bool false, .bool false, .bool false] HPZ.out rfl rfl (by kernel_rfl) (by simp) rfl HW1.out ?_)
  clear hwz
  clear x0 x1 x2 x3 x4 x5 x6 x7 x8 b0 b1
  go_loop [10, 22] (fun _ iv => ∃ k : Nat, k ≤ len ∧ iv = .int .i64 k ∧ ∀ j T, j < k → S[j]? = some T → goneB T = false) (fun _ iv => len - (intOf iv).toNat)
  case atStart => exact ⟨0, Nat.zero_le _, rfl, fun j T hj => by omega⟩
  case round =>
    obtain ⟨k, hk, rfl, hne⟩ := hrel
    have HNE := Lib.hid hne; clear hne
    by_cases hlt : k < len
    · obtain ⟨T, hT⟩ : ∃ T, S[k]? = some T := ⟨_, List.getElem?_eq_getElem (by rw [HLEN.out]; exact hlt)⟩
      have b0 := H1.out.box.c0; have b1 := H1.out.box.c1
      obtain ⟨tb, hta, htl, ht9⟩ := HR1.out.tris.get hT
      subst hta
      rw [HLEN.out] at b1
      have hgone := gone_any tb (k * 9) T w1 ht9.c0 ht9.c1 ht9.c2
      have HT := Lib.hid hT; clear hT ht9
      cases hg : goneB T with
      | false =>
        rw [hg] at hgone
        have HG := Lib.hid hgone; have HGB := Lib.hid hg; clear hgone hg
        go_wp2_with fail
        refine HG.out.mono ?_
        rintro e w' ⟨rfl, rfl⟩
        go_wp2
        go_round
        case rel => exact ⟨k + 1, by omega, by go_num, fun j T' hj hT' => by
          rcases Nat.lt_or_ge j k with g | g
          · exact HNE.out j T' g hT'
          · obtain rfl : j = k := by omega
            rw [HT.out] at hT'; cases hT'; exact HGB.out⟩
        case measure => simp [intOf]; omega
      | true =>
        rw [hg] at hgone
        have hfk : freeK S = some k := by
          unfold freeK
          rw [List.findIdx?_eq_some_iff_getElem]
          refine ⟨by rw [HLEN.out]; exact hlt, ?_, fun j hj => ?_⟩
          · have := HT.out; rw [List.getElem?_eq_some_iff] at this; obtain ⟨_, e⟩ := this; rw [e]; exact hg
          · have := HNE.out j _ hj (List.getElem?_eq_getElem (by rw [HLEN.out]; omega)); rw [this]; simp
        have e1 : r = k := by rw [← HRK.out]; unfold makeK; rw [hfk]
        have e2 : S' = S.set k (newT a b c) := by rw [← HS'.out]; unfold makeM; rw [hfk]
        subst e1 e2
        have HG := Lib.hid hgone
        have hd := H1.out.drew
        have hbx := owns_box hd.row
        have hlx : r * 9 + (newT a b c).cells.length ≤ (triCells S).length := by rw [triCells_len, TriM.cells_len, HLEN.out]; omega
        obtain ⟨ho, hm⟩ := hd.setT (S' := S.set r (newT a b c)) (r * 9) (newT a b c).cells (by simp) (setL_tri (by rw [HLEN.out]; exact hlt) (newT a b c))
        have ct := hd.box.c1
        rw [HLEN.out] at ct hm ho
        obtain ⟨wn, hwn⟩ : ∃ wn, setAll w1.drew tb (r * 9) (newT a b c).cells = wn := ⟨_, rfl⟩
        rw [hwn] at ho hm
        have hmm := HM1.out
        rw [HLEN.out] at hmm
        have hmw := hmm.drew.trans hm
        have HO := Lib.hid ho; have HM := Lib.hid hmw; have HBX := Lib.hid hbx; have HLX := Lib.hid hlx; have HWN := Lib.hid hwn
        have pd_0 := px_0.drew
        obtain ⟨x0, x1, x2, x3, x4, x5, x6, x7, x8⟩ := pd_0.nine
        have hb1' : (0 : Int) ≤ (r : Int) := by omega
        have hb2' : (r : Int) < (len : Int) := by omega
        clear hgone hd hbx hlx ho hm hmm hmw hwn hfk hg pd_0
        go_wp2_with fail
        refine HG.out.mono ?_
        rintro e w' ⟨rfl, rfl⟩
        go_wp2
        obtain ⟨SSq, hSSq⟩ : ∃ S : Array Bool → World → Prop, ∀ l w', S l w' ↔ ((l.getD 7 true = false → w'.cell? ⟨mb, 1, none⟩ = some (.slice (some ⟨tb, 0, none⟩) len tc)) ∧ (l.getD 7 true = false → w'.cell? ⟨w.heap.size, 0, none⟩ = some (.int .i64 a)) ∧ (l.getD 7 true = false → w'.cell? ⟨w.heap.size, 1, none⟩ = some (.int .i64 b)) ∧ (l.getD 7 true = false → w'.cell? ⟨w.heap.size, 2, none⟩ = some (.int .i64 c)) ∧ (l.getD 7 true = false → w'.cell? ⟨w.heap.size, 3, none⟩ = some (.int .i64 (-1))) ∧ (l.getD 7 true = false → w'.cell? ⟨w.heap.size, 4, none⟩ = some (.int .i64 (-1))) ∧ (l.getD 7 true = false → w'.cell? ⟨w.heap.size, 5, none⟩ = some (.int .i64 (-1))) ∧ (l.getD 7 true = false → w'.cell? ⟨w.heap.size, 6, none⟩ = some (.bool false)) ∧ (l.getD 7 true = false → w'.cell? ⟨w.heap.size, 7, none⟩ = some (.bool false)) ∧ (l.getD 7 true = false → w'.cell? ⟨w.heap.size, 8, none⟩ = some (.bool false))) := ⟨_, fun _ _ => Iff.rfl⟩
        refine wp_region_noPanic ?_
        refine wp_region_G SSq 8 #[false, false, false, false, false, false, false, false] (by kernel_rfl) (by kernel_rfl) (by kernel_rfl) ((hSSq _ _).2 ⟨(fun _ => ct), (fun _ => x0), (fun _ => x1), (fun _ => x2), (fun _ => x3), (fun _ => x4), (fun _ => x5), (fun _ => x6), (fun _ => x7), (fun _ => x8)⟩) (fun hCl hHeld => ?_)
        generalize w1.drew = w2 at *
        refine reg_takeG 0 ?_ ?_ ?_ (by kernel_rfl) (by kernel_rfl) (by kernel_rfl) (fun _ _ _ h => h) ?_ ?_ ?_ hCl hHeld ?_
        rotate_left 2
        · simp only [List.getElem?_toArray, List.getElem?_cons_zero]; exact rfl
        · intro l w'; rw [hSSq, hSSq]; rw [getD_set_ne (i := 0) (j := 7) true (by decide)]
        · rfl
        · intro w' hA; clear hA; go_simp; try with_reducible rfl
        clear hCl hHeld
        intro hCl hHeld
        simp only [List.setIfInBounds_toArray, List.set_cons_zero] at hCl hHeld
        try simp only [Act.put]
        try simp only [List.setIfInBounds_toArray, List.set_cons_zero, List.set_cons_succ]
        refine reg_takeG 1 ?_ ?_ ?_ (by kernel_rfl) (by kernel_rfl) (by kernel_rfl) (fun _ _ _ h => h) ?_ ?_ ?_ hCl hHeld ?_
        rotate_left 2
        · simp only [List.getElem?_toArray, List.getElem?_cons_succ, List.getElem?_cons_zero]; exact rfl
        · intro l w'; rw [hSSq, hSSq]; rw [getD_set_ne (i := 1) (j := 7) true (by decide)]
        · rfl
        · intro w' hA; clear hA; go_simp; try with_reducible rfl
        clear hCl hHeld
        intro hCl hHeld
        simp only [List.setIfInBounds_toArray, List.set_cons_zero, List.set_cons_succ] at hCl hHeld
        try simp only [Act.put]
        try simp only [List.setIfInBounds_toArray, List.set_cons_zero, List.set_cons_succ]
        refine reg_takeG 2 ?_ ?_ ?_ (by kernel_rfl) (by kernel_rfl) (by kernel_rfl) (fun _ _ _ h => h) ?_ ?_ ?_ hCl hHeld ?_
        rotate_left 2
        · simp only [List.getElem?_toArray, List.getElem?_cons_succ, List.getElem?_cons_zero]; exact rfl
        · intro l w'; rw [hSSq, hSSq]; rw [getD_set_ne (i := 2) (j := 7) true (by decide)]
        · rfl
        · intro w' hA; clear hA; go_simp; try with_reducible rfl
        clear hCl hHeld
        intro hCl hHeld
        simp only [List.setIfInBounds_toArray, List.set_cons_zero, List.set_cons_succ] at hCl hHeld
        try simp only [Act.put]
        try simp only [List.setIfInBounds_toArray, List.set_cons_zero, List.set_cons_succ]
        refine reg_takeG 3 ?_ ?_ ?_ (by kernel_rfl) (by kernel_rfl) (by kernel_rfl) (fun _ _ _ h => h) ?_ ?_ ?_ hCl hHeld ?_
        rotate_left 2
        · simp only [List.getElem?_toArray, List.getElem?_cons_succ, List.getElem?_cons_zero]; exact rfl
        · intro l w'; rw [hSSq, hSSq]; rw [getD_set_ne (i := 3) (j := 7) true (by decide)]
        · rfl
        · intro w' hA; obtain ⟨l, hl, hi, hSl⟩ := hA; have hSl := (hSSq _ _).1 hSl; obtain ⟨hy0, hy1, hy2, hy3, hy4, hy5, hy6, hy7, hy8, hy9⟩ := hSl; have hz0 := hy0 (hl.not (t := 7) (by kernel_rfl) hi); have hz1 := hy1 (hl.not (t := 7) (by kernel_rfl) hi); have hz2 := hy2 (hl.not (t := 7) (by kernel_rfl) hi); have hz3 := hy3 (hl.not (t := 7) (by kernel_rfl) hi); have hz4 := hy4 (hl.not (t := 7) (by kernel_rfl) hi); have hz5 := hy5 (hl.not (t := 7) (by kernel_rfl) hi); have hz6 := hy6 (hl.not (t := 7) (by kernel_rfl) hi); have hz7 := hy7 (hl.not (t := 7) (by kernel_rfl) hi); have hz8 := hy8 (hl.not (t := 7) (by kernel_rfl) hi); have hz9 := hy9 (hl.not (t := 7) (by kernel_rfl) hi); go_simp; try with_reducible rfl
        clear hCl hHeld
        intro hCl hHeld
        simp only [List.setIfInBounds_toArray, List.set_cons_zero, List.set_cons_succ] at hCl hHeld
        try simp only [Act.put]
        try simp only [List.setIfInBounds_toArray, List.set_cons_zero, List.set_cons_succ]
        refine reg_takeG 4 ?_ ?_ ?_ (by kernel_rfl) (by kernel_rfl) (by kernel_rfl) (fun _ _ _ h => h) ?_ ?_ ?_ hCl hHeld ?_
        rotate_left 2
        · simp only [List.getElem?_toArray, List.getElem?_cons_succ, List.getElem?_cons_zero]; exact rfl
        · intro l w'; rw [hSSq, hSSq]; rw [getD_set_ne (i := 4) (j := 7) true (by decide)]
        · rfl
        · intro w' hA; clear hA; go_simp; try with_reducible rfl
        clear hCl hHeld
        intro hCl hHeld
        simp only [List.setIfInBounds_toArray, List.set_cons_zero, List.set_cons_succ] at hCl hHeld
        try simp only [Act.put]
        try simp only [List.setIfInBounds_toArray, List.set_cons_zero, List.set_cons_succ]
        refine reg_takeG 5 ?_ ?_ ?_ (by kernel_rfl) (by kernel_rfl) (by kernel_rfl) (fun _ _ _ h => h) ?_ ?_ ?_ hCl hHeld ?_
        rotate_left 2
        · simp only [List.getElem?_toArray, List.getElem?_cons_succ, List.getElem?_cons_zero]; exact rfl
        · intro l w'; rw [hSSq, hSSq]; rw [getD_set_ne (i := 5) (j := 7) true (by decide)]
        · rfl
        · intro w' hA; obtain ⟨l, hl, hi, hSl⟩ := hA; have hSl := (hSSq _ _).1 hSl; obtain ⟨hy0, hy1, hy2, hy3, hy4, hy5, hy6, hy7, hy8, hy9⟩ := hSl; have hz0 := hy0 (hl.not (t := 7) (by kernel_rfl) hi); have hz1 := hy1 (hl.not (t := 7) (by kernel_rfl) hi); have hz2 := hy2 (hl.not (t := 7) (by kernel_rfl) hi); have hz3 := hy3 (hl.not (t := 7) (by kernel_rfl) hi); have hz4 := hy4 (hl.not (t := 7) (by kernel_rfl) hi); have hz5 := hy5 (hl.not (t := 7) (by kernel_rfl) hi); have hz6 := hy6 (hl.not (t := 7) (by kernel_rfl) hi); have hz7 := hy7 (hl.not (t := 7) (by kernel_rfl) hi); have hz8 := hy8 (hl.not (t := 7) (by kernel_rfl) hi); have hz9 := hy9 (hl.not (t := 7) (by kernel_rfl) hi); go_simp; try with_reducible rfl
        clear hCl hHeld
        intro hCl hHeld
        simp only [List.setIfInBounds_toArray, List.set_cons_zero, List.set_cons_succ] at hCl hHeld
        try simp only [Act.put]
        try simp only [List.setIfInBounds_toArray, List.set_cons_zero, List.set_cons_succ]
        refine reg_takeG 6 ?_ ?_ ?_ (by kernel_rfl) (by kernel_rfl) (by kernel_rfl) (fun _ _ _ h => h) ?_ ?_ ?_ hCl hHeld ?_
        rotate_left 2
        · simp only [List.getElem?_toArray, List.getElem?_cons_succ, List.getElem?_cons_zero]; exact rfl
        · intro l w'; rw [hSSq, hSSq]; rw [getD_set_ne (i := 6) (j := 7) true (by decide)]
        · rfl
        · intro w' hA; clear hA; go_simp; try with_reducible rfl
        clear hCl hHeld
        intro hCl hHeld
        simp only [List.setIfInBounds_toArray, List.set_cons_zero, List.set_cons_succ] at hCl hHeld
        try simp only [Act.put]
        try simp only [List.setIfInBounds_toArray, List.set_cons_zero, List.set_cons_succ]
        clear hCl hHeld
        refine reg_callG 7 ?_ (by kernel_rfl) ?_ (fun K hK => ?_)
        rotate_left 1
        · simp only [List.getElem?_toArray, List.getElem?_cons_succ, List.getElem?_cons_zero]; exact rfl
        refine wanted_go rfl ?_
        refine wp_store_box _ _ _ rfl (newT a b c).cells HBX.out rfl rfl (by kernel_rfl) HLX.out rfl HWN.out ?_
        refine hK.out _ _ ((hSSq _ _).2 ⟨(fun h => absurd h (by decide)), (fun h => absurd h (by decide)), (fun h => absurd h (by decide)), (fun h => absurd h (by decide)), (fun h => absurd h (by decide)), (fun h => absurd h (by decide)), (fun h => absurd h (by decide)), (fun h => absurd h (by decide)), (fun h => absurd h (by decide)), (fun h => absurd h (by decide))⟩) ?_
        clear hK K
        try simp only [Act.put]
        try simp only [List.setIfInBounds_toArray, List.set_cons_zero, List.set_cons_succ]
        refine wpAnyG_done (by kernel_rfl) ?_ _
        refine NoPanic.normal ?_
        clear hSSq SSq
        go_wp2
        go_ret
        exact ⟨_, rfl, HO.out, HM.out⟩
    · have hfk : freeK S = none := by
        unfold freeK
        rw [List.findIdx?_eq_none_iff]
        intro T hT
        obtain ⟨j, hj, e⟩ := List.mem_iff_getElem.1 hT
        exact HNE.out j T (by rw [HLEN.out] at hj; omega) (by rw [List.getElem?_eq_getElem hj, e])
      have e1 : len = r := by rw [← HRK.out, ← HLEN.out]; unfold makeK; rw [hfk]
      have e2 : S' = S ++ [newT a b c] := by rw [← HS'.out]; unfold makeM; rw [hfk]
      subst e1 e2
      have hd := H1.out.drew
      have ct := hd.box.c1
      rw [HLEN.out] at ct hd
      have HO2 := Lib.hid hd
      have hmm := HM1.out.drew
      rw [HLEN.out] at hmm
      have HMM := Lib.hid hmm
      have pd_0 := px_0.drew
      obtain ⟨x0, x1, x2, x3, x4, x5, x6, x7, x8⟩ := pd_0.nine
      clear hd hmm hfk pd_0
      go_wp2
      obtain ⟨SSr, hSSr⟩ : ∃ S : Array Bool → World → Prop, ∀ l w', S l w' ↔ ((l.getD 7 true = false → w'.cell? ⟨mb, 1, none⟩ = some (.slice ta len tc)) ∧ (l.getD 6 true = false → w'.cell? ⟨w.heap.size, 0, none⟩ = some (.int .i64 a)) ∧ (l.getD 6 true = false → w'.cell? ⟨w.heap.size, 1, none⟩ = some (.int .i64 b)) ∧ (l.getD 6 true = false → w'.cell? ⟨w.heap.size, 2, none⟩ = some (.int .i64 c)) ∧ (l.getD 6 true = false → w'.cell? ⟨w.heap.size, 3, none⟩ = some (.int .i64 (-1))) ∧ (l.getD 6 true = false → w'.cell? ⟨w.heap.size, 4, none⟩ = some (.int .i64 (-1))) ∧ (l.getD 6 true = false → w'.cell? ⟨w.heap.size, 5, none⟩ = some (.int .i64 (-1))) ∧ (l.getD 6 true = false → w'.cell? ⟨w.heap.size, 6, none⟩ = some (.bool false)) ∧ (l.getD 6 true = false → w'.cell? ⟨w.heap.size, 7, none⟩ = some (.bool false)) ∧ (l.getD 6 true = false → w'.cell? ⟨w.heap.size, 8, none⟩ = some (.bool false))) := ⟨_, fun _ _ => Iff.rfl⟩
      refine wp_region_noPanic ?_
      refine wp_region_G SSr 11 #[false, false, false, false, false, false, false, false, false, false, false] (by kernel_rfl) (by kernel_rfl) (by kernel_rfl) ((hSSr _ _).2 ⟨(fun _ => ct), (fun _ => x0), (fun _ => x1), (fun _ => x2), (fun _ => x3), (fun _ => x4), (fun _ => x5), (fun _ => x6), (fun _ => x7), (fun _ => x8)⟩) (fun hCl hHeld => ?_)
      generalize w1.drew = w2 at *
      refine reg_takeG 0 ?_ ?_ ?_ (by kernel_rfl) (by kernel_rfl) (by kernel_rfl) (fun _ _ _ h => h) ?_ ?_ ?_ hCl hHeld ?_
      rotate_left 2
      · simp only [List.getElem?_toArray, List.getElem?_cons_zero]; exact rfl
      · intro l w'; rw [hSSr, hSSr]; rw [getD_set_ne (i := 0) (j := 7) true (by decide)]; rw [getD_set_ne (i := 0) (j := 6) true (by decide)]
      · rfl
      · intro w' hA; clear hA; go_simp; try with_reducible rfl
      clear hCl hHeld
      intro hCl hHeld
      simp only [List.setIfInBounds_toArray, List.set_cons_zero] at hCl hHeld
      try simp only [Act.put]
      try simp only [List.setIfInBounds_toArray, List.set_cons_zero, List.set_cons_succ]
      refine reg_takeG 1 ?_ ?_ ?_ (by kernel_rfl) (by kernel_rfl) (by kernel_rfl) (fun _ _ _ h => h) ?_ ?_ ?_ hCl hHeld ?_
      rotate_left 2
      · simp only [List.getElem?_toArray, List.getElem?_cons_succ, List.getElem?_cons_zero]; exact rfl
      · intro l w'; rw [hSSr, hSSr]; rw [getD_set_ne (i := 1) (j := 7) true (by decide)]; rw [getD_set_ne (i := 1) (j := 6) true (by decide)]
      · rfl
      · intro w' hA; clear hA; go_simp; try with_reducible rfl
      clear hCl hHeld
      intro hCl hHeld
      simp only [List.setIfInBounds_toArray, List.set_cons_zero, List.set_cons_succ] at hCl hHeld
      try simp only [Act.put]
      try simp only [List.setIfInBounds_toArray, List.set_cons_zero, List.set_cons_succ]
      refine reg_takeG 2 ?_ ?_ ?_ (by kernel_rfl) (by kernel_rfl) (by kernel_rfl) (fun _ _ _ h => h) ?_ ?_ ?_ hCl hHeld ?_
      rotate_left 2
      · simp only [List.getElem?_toArray, List.getElem?_cons_succ, List.getElem?_cons_zero]; exact rfl
      · intro l w'; rw [hSSr, hSSr]; rw [getD_set_ne (i := 2) (j := 7) true (by decide)]; rw [getD_set_ne (i := 2) (j := 6) true (by decide)]
      · rfl
      · intro w' hA; clear hA; go_simp; try with_reducible rfl
      clear hCl hHeld
      intro hCl hHeld
      simp only [List.setIfInBounds_toArray, List.set_cons_zero, List.set_cons_succ] at hCl hHeld
      try simp only [Act.put]
      try simp only [List.setIfInBounds_toArray, List.set_cons_zero, List.set_cons_succ]
      refine reg_takeG 3 ?_ ?_ ?_ (by kernel_rfl) (by kernel_rfl) (by kernel_rfl) (fun _ _ _ h => h) ?_ ?_ ?_ hCl hHeld ?_
      rotate_left 2
      · simp only [List.getElem?_toArray, List.getElem?_cons_succ, List.getElem?_cons_zero]; exact rfl
      · intro l w'; rw [hSSr, hSSr]; rw [getD_set_ne (i := 3) (j := 7) true (by decide)]; rw [getD_set_ne (i := 3) (j := 6) true (by decide)]
      · rfl
      · intro w' hA; clear hA; go_simp; try with_reducible rfl
      clear hCl hHeld
      intro hCl hHeld
      simp only [List.setIfInBounds_toArray, List.set_cons_zero, List.set_cons_succ] at hCl hHeld
      try simp only [Act.put]
      try simp only [List.setIfInBounds_toArray, List.set_cons_zero, List.set_cons_succ]
      refine reg_takeG 4 ?_ ?_ ?_ (by kernel_rfl) (by kernel_rfl) (by kernel_rfl) (fun _ _ _ h => h) ?_ ?_ ?_ hCl hHeld ?_
      rotate_left 2
      · simp only [List.getElem?_toArray, List.getElem?_cons_succ, List.getElem?_cons_zero]; exact rfl
      · intro l w'; rw [hSSr, hSSr]; rw [getD_set_ne (i := 4) (j := 7) true (by decide)]; rw [getD_set_ne (i := 4) (j := 6) true (by decide)]
      · rfl
      · intro w' hA; obtain ⟨l, hl, hi, hSl⟩ := hA; have hSl := (hSSr _ _).1 hSl; obtain ⟨hy0, -, -, -, -, -, -, -, -, -⟩ := hSl; have hz0 := hy0 (hl.not (t := 7) (by kernel_rfl) hi); go_simp; try with_reducible rfl
      clear hCl hHeld
      intro hCl hHeld
      simp only [List.setIfInBounds_toArray, List.set_cons_zero, List.set_cons_succ] at hCl hHeld
      try simp only [Act.put]
      try simp only [List.setIfInBounds_toArray, List.set_cons_zero, List.set_cons_succ]
      refine reg_takeG 5 ?_ ?_ ?_ (by kernel_rfl) (by kernel_rfl) (by kernel_rfl) (fun _ _ _ h => h) ?_ ?_ ?_ hCl hHeld ?_
      rotate_left 2
      · simp only [List.getElem?_toArray, List.getElem?_cons_succ, List.getElem?_cons_zero]; exact rfl
      · intro l w'; rw [hSSr, hSSr]; rw [getD_set_ne (i := 5) (j := 7) true (by decide)]; rw [getD_set_ne (i := 5) (j := 6) true (by decide)]
      · rfl
      · intro w' hA; obtain ⟨l, hl, hi, hSl⟩ := hA; have hSl := (hSSr _ _).1 hSl; obtain ⟨-, hy1, hy2, hy3, hy4, hy5, hy6, hy7, hy8, hy9⟩ := hSl; have hz1 := hy1 (hl.not (t := 6) (by kernel_rfl) hi); have hz2 := hy2 (hl.not (t := 6) (by kernel_rfl) hi); have hz3 := hy3 (hl.not (t := 6) (by kernel_rfl) hi); have hz4 := hy4 (hl.not (t := 6) (by kernel_rfl) hi); have hz5 := hy5 (hl.not (t := 6) (by kernel_rfl) hi); have hz6 := hy6 (hl.not (t := 6) (by kernel_rfl) hi); have hz7 := hy7 (hl.not (t := 6) (by kernel_rfl) hi); have hz8 := hy8 (hl.not (t := 6) (by kernel_rfl) hi); have hz9 := hy9 (hl.not (t := 6) (by kernel_rfl) hi); go_simp; try with_reducible rfl
      clear hCl hHeld
      intro hCl hHeld
      simp only [List.setIfInBounds_toArray, List.set_cons_zero, List.set_cons_succ] at hCl hHeld
      try simp only [Act.put]
      try simp only [List.setIfInBounds_toArray, List.set_cons_zero, List.set_cons_succ]
      clear hCl hHeld
      obtain ⟨w3, hw3, pq_0, hb3, hs3⟩ := new_box w2 _ rfl [.int .i64 a, .int .i64 b, .int .i64 c, .int .i64 (-1), .int .i64 (-1), .int .i64 (-1), .bool false, .bool false, .bool false] 49
      refine reg_callG 6 ?_ (by kernel_rfl) ?_ (fun K hK => ?_)
      rotate_left 1
      · simp only [List.getElem?_toArray, List.getElem?_cons_succ, List.getElem?_cons_zero]; exact rfl
      go_simp
      try rw [hw3]
      have ct3 := (hb3.cell (p := ⟨mb, 1, none⟩) (World.block_lt_of_cell? w2 _ ct)).trans ct
      refine hK.out _ _ ((hSSr _ _).2 ⟨(fun _ => ct3), (fun h => absurd h (by decide)), (fun h => absurd h (by decide)), (fun h => absurd h (by decide)), (fun h => absurd h (by decide)), (fun h => absurd h (by decide)), (fun h => absurd h (by decide)), (fun h => absurd h (by decide)), (fun h => absurd h (by decide)), (fun h => absurd h (by decide))⟩) ?_
      clear hK K
      try simp only [Act.put]
      try simp only [List.setIfInBounds_toArray, List.set_cons_zero, List.set_cons_succ]
      have ho3 := HO2.out.below hb3
      obtain ⟨v', w4, hrun, hrow4, hgrow, hwhere⟩ := run_append_where (P := Try.prog) w3 lo 41 41 49 i0 (.agg #[.int .i64 0, .int .i64 0, .int .i64 0, .int .i64 0, .int .i64 0, .int .i64 0, .bool false, .bool false, .bool false]) 9 56 (by kernel_rfl) HI.out HZ0.out HZ1.out HZ2.out rfl (.slice ta len tc) len _ (HLEN.out ▸ ho3.row) ⟨w2.heap.size, 0, none⟩ 1 1 [.int .i64 a, .int .i64 b, .int .i64 c, .int .i64 (-1), .int .i64 (-1), .int .i64 (-1), .bool false, .bool false, .bool false] (by omega) rfl pq_0.news (triCells_one' (newT a b c)) (by unfold maxLen; omega) (by omega) (by have := ho3.low; omega)
      refine reg_callG 7 ?_ (by kernel_rfl) ?_ (fun K hK => ?_)
      rotate_left 1
      · simp only [List.getElem?_toArray, List.getElem?_cons_succ, List.getElem?_cons_zero]; exact rfl
      refine wanted_go rfl ?_
      refine wp_append_row _ _ 41 rfl rfl rfl hrun ?_
      obtain ⟨g', cap', rfl⟩ := ownsRow_succ hrow4
      obtain ⟨hbx4, c4, f4, HFIN⟩ := make_end ho3 HLEN.out hrow4 hgrow hwhere
      refine hK.out _ _ ((hSSr _ _).2 ⟨(fun h => absurd h (by decide)), (fun h => absurd h (by decide)), (fun h => absurd h (by decide)), (fun h => absurd h (by decide)), (fun h => absurd h (by decide)), (fun h => absurd h (by decide)), (fun h => absurd h (by decide)), (fun h => absurd h (by decide)), (fun h => absurd h (by decide)), (fun h => absurd h (by decide))⟩) ?_
      clear hK K
      try simp only [Act.put]
      try simp only [List.setIfInBounds_toArray, List.set_cons_zero, List.set_cons_succ]
      refine reg_callG 8 ?_ (by kernel_rfl) ?_ (fun K hK => ?_)
      rotate_left 1
      · simp only [List.getElem?_toArray, List.getElem?_cons_succ, List.getElem?_cons_zero]; exact rfl
      go_simp
      refine hK.out _ _ ((hSSr _ _).2 ⟨(fun h => absurd h (by decide)), (fun h => absurd h (by decide)), (fun h => absurd h (by decide)), (fun h => absurd h (by decide)), (fun h => absurd h (by decide)), (fun h => absurd h (by decide)), (fun h => absurd h (by decide)), (fun h => absurd h (by decide)), (fun h => absurd h (by decide)), (fun h => absurd h (by decide))⟩) ?_
      clear hK K
      try simp only [Act.put]
      try simp only [List.setIfInBounds_toArray, List.set_cons_zero, List.set_cons_succ]
      refine reg_callG 9 ?_ (by kernel_rfl) ?_ (fun K hK => ?_)
      rotate_left 1
      · simp only [List.getElem?_toArray, List.getElem?_cons_succ, List.getElem?_cons_zero]; exact rfl
      go_simp
      refine hK.out _ _ ((hSSr _ _).2 ⟨(fun h => absurd h (by decide)), (fun h => absurd h (by decide)), (fun h => absurd h (by decide)), (fun h => absurd h (by decide)), (fun h => absurd h (by decide)), (fun h => absurd h (by decide)), (fun h => absurd h (by decide)), (fun h => absurd h (by decide)), (fun h => absurd h (by decide)), (fun h => absurd h (by decide))⟩) ?_
      clear hK K
      try simp only [Act.put]
      try simp only [List.setIfInBounds_toArray, List.set_cons_zero, List.set_cons_succ]
      refine reg_callG 10 ?_ (by kernel_rfl) ?_ (fun K hK => ?_)
      rotate_left 1
      · simp only [List.getElem?_toArray, List.getElem?_cons_succ, List.getElem?_cons_zero]; exact rfl
      go_simp
      refine hK.out _ _ ((hSSr _ _).2 ⟨(fun h => absurd h (by decide)), (fun h => absurd h (by decide)), (fun h => absurd h (by decide)), (fun h => absurd h (by decide)), (fun h => absurd h (by decide)), (fun h => absurd h (by decide)), (fun h => absurd h (by decide)), (fun h => absurd h (by decide)), (fun h => absurd h (by decide)), (fun h => absurd h (by decide))⟩) ?_
      clear hK K
      try simp only [Act.put]
      try simp only [List.setIfInBounds_toArray, List.set_cons_zero, List.set_cons_succ]
      refine wpAnyG_done (by kernel_rfl) ?_ _
      refine NoPanic.normal ?_
      clear hSSr SSr
      obtain ⟨hfo, hfm⟩ := HFIN
      have c5 := hfo.box.c1
      have HO := Lib.hid hfo; have HM := Lib.hid (HMM.out.trans ((Mut.of_below hb3 (fun k hk => (HO2.out.row.lt k hk).2)).trans hfm))
      have b0' := hfo.box.c0
      clear hfo hfm hbx4 c4 f4
      go_wp2
      go_ret
      exact ⟨_, rfl, HO.out, HM.out⟩
end Go.Proofs.Ytecnnpkpgbbfkaa
/- mesh's writers: Clone. -/
namespace Go.Proofs.Ytecnnpkpgbbfkaa
open Go.RowKit Go.MagM
theorem infoPt : (Try.prog.info? 62).map (fun i => (i.zero, i.size, i.bytes)) = some (some (.agg #[.int .i64 0, .int .i64 0]), 2, 16) := by kernel_rfl
set_option maxRecDepth 100000 in
set_option maxHeartbeats 16000000 in
theorem ptClone_any (b o n c : Nat) (xs : List Value) (w : World) (h0 : 0 < n) (hn9 : n ≤ 1000000) (hl : xs.length = n * 2) (h1 : ∀ u ∈ xs, u.oneCell' = true) (hc : ∀ j u, xs[j]? = some u → w.cell? ⟨b, o + j, none⟩ = some u) :
    Calls Try.prog 35 #[.slice (some ⟨b, o, none⟩) n c] w fun e w' => ∃ g c', e = .returned (.slice (some ⟨g, 0, none⟩) n c') ∧ w'.ownsRow w.heap.size 62 2 (.slice (some ⟨g, 0, none⟩) n c') n xs ∧ Below w.heap.size w w' := by
  obtain ⟨i0, hi, hz0, hz1, hz2⟩ := info_parts infoPt
  have HI := Lib.hid hi; have HZ0 := Lib.hid hz0; have HZ1 := Lib.hid hz1; have HZ2 := Lib.hid hz2
  clear hi hz0 hz1 hz2
  have heq : ∀ w : World, Sem.run Try.prog (binOp BinOp.eql 40 (Value.slice (some ⟨b, o, none⟩) n c) (Value.slice none 0 0)) w = Result.ok (Value.bool false) w := fun w => by kernel_rfl
  obtain ⟨w1, hw1, pe_0, hb1, hs1⟩ := new_box w (w.heap.size) rfl [] 62
  have hown : w1.ownsRow w.heap.size 62 2 (.slice (some ⟨w.heap.size, 0, none⟩) 0 0) 0 [] := by
    rw [← hw1]
    exact ⟨rfl, .inr ⟨w.heap.size, 0, #[], rfl, Nat.le_refl _, World.alloc_heap_new w _, Nat.le_refl _, Nat.zero_le _, rfl, rfl⟩⟩
  have hcs : ∀ j u, xs[j]? = some u → w1.cell? ((⟨b, o, none⟩ : Addr).add j) = some u := fun j u hu => by
    have h1 := hc j u hu
    rw [addr_add]
    exact (hb1.cell (p := ⟨b, o + j, none⟩) (World.block_lt_of_cell? w _ h1)).trans h1
  obtain ⟨v1, wa, hrun, rown, hgrow, hwh⟩ := run_append_where (P := Try.prog) w1 w.heap.size 40 40 62 i0 (.agg #[.int .i64 0, .int .i64 0]) 2 16 (by kernel_rfl) HI.out HZ0.out HZ1.out HZ2.out rfl (.slice (some ⟨w.heap.size, 0, none⟩) 0 0) 0 [] hown ⟨b, o, none⟩ n c xs h0 hl hcs h1 (by unfold maxLen; omega) (by omega) (by omega)
  rw [Nat.zero_add, List.nil_append] at rown
  have hBa : Below w.heap.size w wa := hb1.grown hgrow (by omega) (fun k hk => by have : w.heap.size = k := (by simpa [Value.ownBlock] using hk); omega)
  obtain ⟨q, hq⟩ : ∃ q, n = q + 1 := ⟨n - 1, by omega⟩
  obtain ⟨g, c', rfl⟩ := ownsRow_succ (hq ▸ rown)
  rw [← hq] at rown hrun
  have HR := Lib.hid rown; have HBA := Lib.hid hBa
  clear hown hcs rown hgrow hwh hBa hc hl h1 pe_0 hb1 hs1 hq
  go_enter Try.func35, Try.ntmps35
  go_wp2_with (refine wpList_append_row rfl _ _ 40 rfl rfl rfl hrun ?_)
  clear hrun
  go_wp2
  go_ret
  exact ⟨g, c', rfl, HR.out, HBA.out⟩
theorem pts_one : ∀ (l : List (Int × Int)) (u : Value), u ∈ ptsCells l → u.oneCell' = true
  | [], u, h => by cases h
  | q :: t, u, h => by
    rw [ptsCells] at h
    rcases List.mem_append.1 h with h | h
    · simp at h; rcases h with rfl | rfl <;> rfl
    · exact pts_one t u h
end Go.Proofs.Ytecnnpkpgbbfkaa
/- mesh's New. -/
namespace Go.MagM
open Go.RowKit
theorem rdV_some {S : List TriM} {t : Nat} {x y z : Int} (h : rdV S t = some (x, y, z)) : ∃ T, S[t]? = some T ∧ T.v0 = x ∧ T.v1 = y ∧ T.v2 = z := by
  unfold rdV at h
  cases hs : S[t]? with
  | none => rw [hs] at h; cases h
  | some T => rw [hs] at h; simp at h; exact ⟨T, rfl, h.1, h.2.1, h.2.2⟩
theorem live_of {S : List TriM} {t : Nat} {x y z : Int} (h : rdV S t = some (x, y, z)) (h0 : 0 ≤ x) : ∃ T, S[t]? = some T ∧ goneB T = false := by
  obtain ⟨T, h1, h2, h3, h4⟩ := rdV_some h
  exact ⟨T, h1, by unfold goneB; exact decide_eq_false (by rw [h2]; omega)⟩
/-- A mesh of one triangle and its ghosts, as so many rounds of New have linked it. -/
def newS (a b c : Int) : Nat → List TriM
  | 0 => [newT a b c, newT c b (-1), newT a c (-1), newT b a (-1)]
  | i + 1 => linkL (linkL (newS a b c i) 0 i (i + 1) 2 false) (i + 1) 0 ((i + 2) % 3 + 1) 1 false
theorem newS_v (a b c : Int) : ∀ i t, rdV (newS a b c i) t = rdV (newS a b c 0) t
  | 0, _ => rfl
  | i + 1, t => by
    show rdV (linkL (linkL (newS a b c i) 0 i (i + 1) 2 false) (i + 1) 0 ((i + 2) % 3 + 1) 1 false) t = _
    rw [linkL_v, linkL_v, newS_v a b c i t]
theorem newS_live {a b c : Nat} (i : Nat) {t : Nat} (ht : t < 4) : ∃ T, (newS a b c i)[t]? = some T ∧ goneB T = false := by
  have h := newS_v (a : Int) b c i t
  obtain rfl | rfl | rfl | rfl : t = 0 ∨ t = 1 ∨ t = 2 ∨ t = 3 := by omega
  · exact live_of (x := a) (y := b) (z := c) (h.trans rfl) (by omega)
  · exact live_of (x := c) (y := b) (z := -1) (h.trans rfl) (by omega)
  · exact live_of (x := a) (y := c) (z := -1) (h.trans rfl) (by omega)
  · exact live_of (x := b) (y := a) (z := -1) (h.trans rfl) (by omega)
theorem newS_mid {a b c : Nat} (i : Nat) {t : Nat} (ht : t < 4) : ∃ T, (linkL (newS a b c i) 0 i (i + 1) 2 false)[t]? = some T ∧ goneB T = false := by
  have h := (linkL_v (newS (a : Int) b c i) 0 i (i + 1) 2 false t).trans (newS_v (a : Int) b c i t)
  obtain rfl | rfl | rfl | rfl : t = 0 ∨ t = 1 ∨ t = 2 ∨ t = 3 := by omega
  · exact live_of (x := a) (y := b) (z := c) (h.trans rfl) (by omega)
  · exact live_of (x := c) (y := b) (z := -1) (h.trans rfl) (by omega)
  · exact live_of (x := a) (y := c) (z := -1) (h.trans rfl) (by omega)
  · exact live_of (x := b) (y := a) (z := -1) (h.trans rfl) (by omega)
/-- What New makes. -/
def newM (a b c : Int) : List TriM := [⟨a, b, c, 1, 2, 3, false, false, false⟩, ⟨c, b, -1, 3, 2, 0, false, false, false⟩, ⟨a, c, -1, 1, 3, 0, false, false, false⟩, ⟨b, a, -1, 2, 1, 0, false, false, false⟩]
theorem newS_end (a b c : Int) : newS a b c 3 = newM a b c := rfl
theorem free_none {S : List TriM} (h : ∀ T, T ∈ S → goneB T = false) : freeK S = none := by
  unfold freeK
  rw [List.findIdx?_eq_none_iff]
  exact h
theorem newT_live (a b : Nat) (c : Int) : goneB (newT a b c) = false := by
  unfold goneB newT; exact decide_eq_false (by simp only []; omega)
end Go.MagM
namespace Go.Proofs.Ytecnnpkpgbbfkaa
open Go.RowKit Go.MagM
theorem mkTri_is {lo mb pb pc : Nat} {tv : Value} {P : List (Int × Int)} {S : List TriM} (a b c r : Int) (S' : List TriM) (w : World) (h : MeshO 62 49 w lo mb pb pc tv P S) (hroom : S.length + 1 ≤ 1000000) (hr : ((makeK S : Nat) : Int) = r) (hS : makeM S a b c = S') :
    Calls Try.prog 37 #[.pointer (some ⟨mb, 0, none⟩), .int .i64 a, .int .i64 b, .int .i64 c] w fun e w' => ∃ tv', e = .returned (.int .i64 r) ∧ MeshO 62 49 w' lo mb pb pc tv' P S' ∧ Mut w w' mb tv tv' := by
  subst hr hS; exact mkTri_any a b c w h hroom
theorem addM {S : List TriM} (h : ∀ T, T ∈ S → goneB T = false) (a b c : Int) : makeK S = S.length ∧ makeM S a b c = S ++ [newT a b c] := by
  unfold makeK makeM; rw [free_none h]; exact ⟨rfl, rfl⟩
set_option maxRecDepth 100000 in
set_option maxHeartbeats 16000000 in
theorem New_yes (so : Option Addr) (sb n sc : Nat) (P : List (Int × Int)) (w : World) (hn : P.length = n) (h0 : 0 < n) (hn9 : n ≤ 1000000) (hP : InPs P) (ho : so = some ⟨sb, 0, none⟩) (hc : ∀ j u, (ptsCells P)[j]? = some u → w.cell? ⟨sb, 0 + j, none⟩ = some u) (a b c : Nat) (hz : turnM P (a : Int) (b : Int) (c : Int) = 1) :
    Calls Try.prog 16 #[.slice so n sc, .int .i64 (a : Int), .int .i64 (b : Int), .int .i64 (c : Int)] w fun e w' => ∃ mb pb pc tv, e = .returned (.tuple #[.pointer (some ⟨mb, 0, none⟩), .bool true]) ∧ MeshO 62 49 w' w.heap.size mb pb pc tv P (newM (a : Int) (b : Int) (c : Int)) ∧ w.heap.size ≤ pb ∧ Below w.heap.size w w' := by
  subst ho
  subst hn
  have hcl := ptClone_any sb 0 P.length sc (ptsCells P) w h0 hn9 (ptsCells_len P) (pts_one P) hc
  have HCL := Lib.hid hcl; have HPS := Lib.hid hP
  clear hcl hP hc
  go_enter Try.func16, Try.ntmps16
  go_wp2_with fail
  refine HCL.out.mono ?_
  rintro e w1 ⟨g, c', rfl, hr1, hb1⟩
  have l1 := hr1.lt g rfl
  obtain ⟨w2, hw2, pm_0, hb2, hs2⟩ := new_box w1 _ rfl [.slice (some ⟨g, 0, none⟩) P.length c', .slice none 0 0] 43
  have hm_0 : MeshO 62 49 w2 w.heap.size w1.heap.size g c' (.slice none 0 0) P [] := ⟨pm_0, owns_blow hr1 hb2, World.ownsRow_nil _ _ _ _, by have := hb1.size; omega, ⟨by simp [Value.ownBlock], by simp [Value.ownBlock]⟩, ⟨hn9, by simp⟩⟩
  have hB_2 := hb1.trans (hb2.mono hb1.size)
  obtain ⟨ta, tc, htv, hrd⟩ := hm_0.read
  have ht := mturn_any (a : Int) (b : Int) (c : Int) w2 hrd HPS.out
  rw [hz] at ht
  have HT := Lib.hid ht
  clear ht hrd htv hz hr1
  go_wp2_with fail
  refine HT.out.mono ?_
  rintro e w3 ⟨rfl, hb3⟩
  have hm_1 := hm_0.below hb3
  have hB_3 := hB_2.trans (hb3.mono hB_2.size)
  clear hm_0
  have k0 := mkTri_is (a : Int) (b : Int) (c : Int) 0 [newT a b c] w3 hm_1 (by simp) rfl rfl
  have K0 := Lib.hid k0; clear k0
  go_wp2_with fail
  refine K0.out.mono ?_
  rintro e w4 ⟨tv1, rfl, hm_2, mu1⟩
  have a1 := addM (S := [newT a b c]) (by intro T hT; simp at hT; subst hT; exact newT_live a b _) (c : Int) (b : Int) (-1)
  have k1 := mkTri_is (c : Int) (b : Int) (-1) 1 [newT a b c, newT c b (-1)] w4 hm_2 (by simp) (by rw [a1.1]; rfl) (by rw [a1.2]; rfl)
  have K1 := Lib.hid k1; clear k1 a1
  go_wp2_with fail
  refine K1.out.mono ?_
  rintro e w5 ⟨tv2, rfl, hm_3, mu2⟩
  have a2 := addM (S := [newT a b c, newT c b (-1)]) (by intro T hT; simp at hT; rcases hT with rfl | rfl <;> exact newT_live _ _ _) (a : Int) (c : Int) (-1)
  have k2 := mkTri_is (a : Int) (c : Int) (-1) 2 [newT a b c, newT c b (-1), newT a c (-1)] w5 hm_3 (by simp) (by rw [a2.1]; rfl) (by rw [a2.2]; rfl)
  have K2 := Lib.hid k2; clear k2 a2
  go_wp2_with fail
  refine K2.out.mono ?_
  rintro e w6 ⟨tv3, rfl, hm_4, mu3⟩
  have a3 := addM (S := [newT a b c, newT c b (-1), newT a c (-1)]) (by intro T hT; simp at hT; rcases hT with rfl | rfl | rfl <;> exact newT_live _ _ _) (b : Int) (a : Int) (-1)
  have k3 := mkTri_is (b : Int) (a : Int) (-1) 3 (newS a b c 0) w6 hm_4 (by simp) (by rw [a3.1]; rfl) (by rw [a3.2]; rfl)
  have K3 := Lib.hid k3; clear k3 a3
  go_wp2_with fail
  refine K3.out.mono ?_
  rintro e w7 ⟨tv4, rfl, hm_5, mu4⟩
  have mu := ((mu1.trans mu2).trans mu3).trans mu4
  have hB_7 : Below w.heap.size w w7 := hB_3.trans (mu.below hB_3.size (by have := hb1.size; omega) (fun k hk => by simp [Value.ownBlock] at hk))
  obtain ⟨w8, hw8, pg_0, hb8, hs8⟩ := new_box w7 _ rfl [.int .i64 1, .int .i64 2, .int .i64 3] 46
  have hm_6 := hm_5.below hb8
  have hB_8 := hB_7.trans (hb8.mono hB_7.size)
  have HM6 := Lib.hid hm_6
  have hg4 : tv4.ownBlock ≠ some w7.heap.size := fun e => by have := (hm_5.row.lt _ e).2; omega
  have hlow := hm_5.low
  have hlow4 := fun k hk => (hm_5.row.lt k hk).1
  obtain ⟨g0, g1, g2, f0, f1, f2⟩ := pg_0.open3
  have HMU := Lib.hid mu; have HB8 := Lib.hid hB_8; have PG := Lib.hid pg_0
  clear hm_1 hm_2 hm_3 hm_4 hm_5 hm_6 mu1 mu2 mu3 mu4 mu hB_7 hB_8 hB_3 hB_2 pg_0
  go_wp2
  clear g0 g1 g2 f0 f1 f2
  go_loopw [13, 14, 49] (fun _ _ iv wr => ∃ i : Nat, i ≤ 3 ∧ iv = .int .i64 i ∧ MeshO 62 49 wr w.heap.size w1.heap.size g c' tv4 P (newS a b c i) ∧ Mut w8 wr w1.heap.size tv4 tv4) (fun _ _ iv _ => 3 - (intOf iv).toNat)
  case atStart => exact ⟨0, by omega, rfl, HM6.out, Mut.refl _ _ _⟩
  case round =>
    obtain ⟨i, hi, rfl, hm, hmu⟩ := hrel
    by_cases hlt : i < 3
    · have hix : ∀ w : World, (Instr.index 46 (.agg #[.int .i64 1, .int .i64 2, .int .i64 3]) (.int .i64 (i : Int))).run Try.prog w = .ok (.int .i64 ((i + 1 : Nat) : Int)) w := by
        intro w; obtain rfl | rfl | rfl : i = 0 ∨ i = 1 ∨ i = 2 := by omega
        all_goals kernel_rfl
      obtain ⟨T1, t1, t1g⟩ := newS_live (a := a) (b := b) (c := c) i (t := 0) (by omega)
      obtain ⟨T2, t2, t2g⟩ := newS_live (a := a) (b := b) (c := c) i (t := i + 1) (by omega)
      obtain ⟨T3, t3, t3g⟩ := newS_mid (a := a) (b := b) (c := c) i (t := i + 1) (by omega)
      obtain ⟨T4, t4, t4g⟩ := newS_mid (a := a) (b := b) (c := c) i (t := (i + 2) % 3 + 1) (by omega)
      have c1 := Link_any 0 i (i + 1) 2 false T1 T2 wr hm t1 t1g hlt t2 t2g (by omega)
      have c2 := fun w' hm' => Link_any (lo := w.heap.size) (mb := w1.heap.size) (pb := g) (pc := c') (tv := tv4) (P := P) (i + 1) 0 ((i + 2) % 3 + 1) 1 false T3 T4 w' hm' t3 t3g (by omega) t4 t4g (by omega)
      obtain ⟨j, hj⟩ : ∃ j, (i + 2) % 3 = j := ⟨_, rfl⟩
      have hj3 : j < 3 := by omega
      have hstep : newS a b c (i + 1) = linkL (linkL (newS a b c i) 0 i (i + 1) 2 false) (i + 1) 0 ((i + 2) % 3 + 1) 1 false := rfl
      rw [hj] at c2 hstep
      have hmod : ((i : Int) + 2).tmod 3 = (j : Int) := by have := mod_two i 3; rw [hj] at this; exact this
      have hwi : IntKind.i64.wrap ((i : Int) + 2) = (i : Int) + 2 := by rw [IntKind.wrap_i64]; omega
      have hcell : w8.cell? ⟨w7.heap.size, j, none⟩ = some (.int .i64 ((j + 1 : Nat) : Int)) := by
        obtain rfl | rfl | rfl : j = 0 ∨ j = 1 ∨ j = 2 := by omega
        · exact PG.out.c0
        · exact PG.out.c1
        · exact PG.out.c2
      have hjb1 : (0 : Int) ≤ (j : Int) := by omega
      have hjb2 : (j : Int) < 3 := by omega
      have C1 := Lib.hid c1; have C2 := Lib.hid c2; have HST := Lib.hid hstep; have HCE := Lib.hid hcell
      have HM := Lib.hid hmu
      clear c1 c2 hstep t1 t1g t2 t2g t3 t3g t4 t4g hm hmu hj hcell
      have e0 : ((0 : Nat) : Int) = 0 := rfl
      go_wp2_with fail
      refine C1.out.mono ?_
      rintro e w9 ⟨rfl, hm9, mu9⟩
      have hcell9 : w9.cell? ⟨w7.heap.size, j, none⟩ = some (.int .i64 ((j + 1 : Nat) : Int)) := by
        have m := HM.out.trans mu9
        have := (m.keep w7.heap.size (by omega) (by have := hlow.2.1; omega) hg4).1
        rw [World.cell?_of_block (w := w8) (a := ⟨w7.heap.size, j, none⟩) this]; exact HCE.out
      go_wp2_with fail
      refine (C2.out _ hm9).mono ?_
      rintro e w10 ⟨rfl, hm10, mu10⟩
      have HMA := Lib.hid hm10
      clear hm9 hcell9 hm10 e0
      go_wp2
      go_roundw
      case rel => exact ⟨i + 1, by omega, by go_num, by rw [HST.out]; exact HMA.out, (HM.out.trans mu9).trans mu10⟩
      case measure => simp [intOf]; omega
    · obtain rfl : i = 3 := by omega
      rw [newS_end] at hm
      have HM := Lib.hid hm; have HMM := Lib.hid hmu
      clear hm hmu
      go_wp2
      go_ret2
      exact ⟨_, _, _, _, rfl, HM.out, by omega, HB8.out.trans (HMM.out.below (HB8.out.size) (by omega) hlow4)⟩
end Go.Proofs.Ytecnnpkpgbbfkaa
/- One triangle and its ghosts are sound; pure. -/
namespace Go.Proofs.Ytecnnpkpgbbfkaa
open Go.RowKit Go.MagM
section
variable {P : List (Int × Int)} {a b c : Nat}
theorem newM_get (a b c : Int) (k : Nat) (T : TriM) (h : (newM a b c)[k]? = some T) : (k = 0 ∧ T = ⟨a, b, c, 1, 2, 3, false, false, false⟩) ∨ (k = 1 ∧ T = ⟨c, b, -1, 3, 2, 0, false, false, false⟩) ∨ (k = 2 ∧ T = ⟨a, c, -1, 1, 3, 0, false, false, false⟩) ∨ (k = 3 ∧ T = ⟨b, a, -1, 2, 1, 0, false, false, false⟩) := by
  match k, h with
  | 0, h => simp [newM] at h; exact .inl ⟨rfl, h.symm⟩
  | 1, h => simp [newM] at h; exact .inr (.inl ⟨rfl, h.symm⟩)
  | 2, h => simp [newM] at h; exact .inr (.inr (.inl ⟨rfl, h.symm⟩))
  | 3, h => simp [newM] at h; exact .inr (.inr (.inr ⟨rfl, h.symm⟩))
  | _ + 4, h => simp [newM] at h
theorem newM_links (hab : a ≠ b) (hbc : b ≠ c) (hac : a ≠ c) (k : Nat) (T : TriM) (h : (newM (a : Int) b c)[k]? = some T) : linkedT (newM (a : Int) b c) k T = true := by
  have e1 : ¬ (a : Int) = b := by omega
  have e2 : ¬ (b : Int) = c := by omega
  have e3 : ¬ (a : Int) = c := by omega
  have f1 : ¬ (b : Int) = a := by omega
  have f2 : ¬ (c : Int) = b := by omega
  have f3 : ¬ (c : Int) = a := by omega
  have m1 : ¬ (a : Int) = -1 := by omega
  have m2 : ¬ (b : Int) = -1 := by omega
  have m3 : ¬ (c : Int) = -1 := by omega
  have n1 : ¬ (-1 : Int) = a := by omega
  have n2 : ¬ (-1 : Int) = b := by omega
  have n3 : ¬ (-1 : Int) = c := by omega
  have g1 : ¬ (a : Int) = -2 := by omega
  have g2 : ¬ (b : Int) = -2 := by omega
  have g3 : ¬ (c : Int) = -2 := by omega
  refine linkedT_yes fun i hi => ?_
  rcases newM_get _ _ _ k T h with ⟨rfl, rfl⟩ | ⟨rfl, rfl⟩ | ⟨rfl, rfl⟩ | ⟨rfl, rfl⟩
  all_goals
    obtain rfl | rfl | rfl : i = 0 ∨ i = 1 ∨ i = 2 := by omega
    all_goals simp [linkI, getT, newM, edgeT, edgeV, goneB, TriM.n, TriM.f, e1, e2, e3, f1, f2, f3, m1, m2, m3, n1, n2, n3, g1, g2, g3]
theorem newM_formed (ha : a < P.length) (hb : b < P.length) (hc : c < P.length) (ht : 0 < crs (ptA P a).1 (ptA P a).2 (ptA P b).1 (ptA P b).2 (ptA P c).1 (ptA P c).2) (k : Nat) (T : TriM) (h : (newM (a : Int) b c)[k]? = some T) : formedT P (newM (a : Int) b c) T = true := by
  have m1 : ¬ (-1 : Int) = a := by omega
  have m2 : ¬ (-1 : Int) = b := by omega
  have m3 : ¬ (-1 : Int) = c := by omega
  have g1 : ¬ (a : Int) = -2 := by omega
  have g2 : ¬ (b : Int) = -2 := by omega
  have g3 : ¬ (c : Int) = -2 := by omega
  have ga : getP P (a : Int) = some (ptA P a) := by unfold getP; rw [if_pos (by omega)]; exact ptA_at ha
  have gb : getP P (b : Int) = some (ptA P b) := by unfold getP; rw [if_pos (by omega)]; exact ptA_at hb
  have gc : getP P (c : Int) = some (ptA P c) := by unfold getP; rw [if_pos (by omega)]; exact ptA_at hc
  have hr : realM (newM (a : Int) b c) 0 = true := by
    have p1 : (0 : Int) ≤ a := by omega
    have p2 : (0 : Int) ≤ b := by omega
    have p3 : (0 : Int) ≤ c := by omega
    simp [realM, getT, newM, realT]
  rcases newM_get _ _ _ k T h with ⟨rfl, rfl⟩ | ⟨rfl, rfl⟩ | ⟨rfl, rfl⟩ | ⟨rfl, rfl⟩
  · have hp : placeT ⟨(a : Int), b, c, 1, 2, 3, false, false, false⟩ (-1) = -1 := by simp [placeT, m1, m2, m3]
    unfold formedT
    rw [if_pos hp]
    have : turnM P (a : Int) b c = 1 := by
      unfold turnM; rw [ga, gb, gc]; exact Int.sign_eq_one_of_pos ht
    simp only [this]; rfl
  all_goals
    unfold formedT
    simp [placeT, m1, m2, m3, hr]
theorem newM_first : firstM (newM (a : Int) b c) (-1) = 1 := by
  have m1 : ¬ (-1 : Int) = a := by omega
  have m2 : ¬ (-1 : Int) = b := by omega
  have m3 : ¬ (-1 : Int) = c := by omega
  have g2 : ¬ (c : Int) = -2 := by omega
  refine firstM_hit (k := 1) (by simp [newM]) ?_ (fun j hj => ?_)
  · simp [placeM, getT, newM, goneB, placeT, m2, m3, g2]
  · obtain rfl : j = 0 := by omega
    simp [placeM, getT, newM, placeT, m1, m2, m3]
theorem newM_walk : walkM (newM (a : Int) b c) (-1) 1 4 1 = [(1, 2), (3, 2), (2, 2)] := by
  have m1 : ¬ (-1 : Int) = a := by omega
  have m2 : ¬ (-1 : Int) = b := by omega
  have m3 : ¬ (-1 : Int) = c := by omega
  have g1 : ¬ (a : Int) = -2 := by omega
  have g2 : ¬ (b : Int) = -2 := by omega
  have g3 : ¬ (c : Int) = -2 := by omega
  have p1 : placeM (newM (a : Int) b c) 1 (-1) = 2 := by simp [placeM, getT, newM, goneB, placeT, m2, m3, g3]
  have p2 : placeM (newM (a : Int) b c) 2 (-1) = 2 := by simp [placeM, getT, newM, goneB, placeT, m1, m3, g1]
  have p3 : placeM (newM (a : Int) b c) 3 (-1) = 2 := by simp [placeM, getT, newM, goneB, placeT, m1, m2, g2]
  have s1 : stepM (newM (a : Int) b c) (-1) 1 = 3 := by simp [stepM, getT, newM, placeT, m2, m3, TriM.n]
  have s2 : stepM (newM (a : Int) b c) (-1) 2 = 1 := by simp [stepM, getT, newM, placeT, m1, m3, TriM.n]
  have s3 : stepM (newM (a : Int) b c) (-1) 3 = 2 := by simp [stepM, getT, newM, placeT, m1, m2, TriM.n]
  simp [walkM, p1, p2, p3, s1, s2, s3]
theorem newM_border : borderM (newM (a : Int) b c) = [(a : Int), b, c] := by
  unfold borderM
  rw [newM_first]
  show (rimZ _ (walkM (newM (a : Int) b c) (-1) 1 4 1)).reverse = _
  rw [newM_walk]
  simp [rimZ, vAt, newM, TriM.v]
theorem newM_convex (_ha : a < P.length) (_hb : b < P.length) (_hc : c < P.length) (ht : 0 < crs (ptA P a).1 (ptA P a).2 (ptA P b).1 (ptA P b).2 (ptA P c).1 (ptA P c).2) : convexM P [a, b, c] = true := by
  have c0 : corC P [a, b, c] 0 = ptA P a := by simp [corC, natA]
  have c1 : corC P [a, b, c] 1 = ptA P b := by simp [corC, natA]
  have c2 : corC P [a, b, c] 2 = ptA P c := by simp [corC, natA]
  have c3 : corC P [a, b, c] 3 = ptA P a := by simp [corC, natA]
  have c4 : corC P [a, b, c] 4 = ptA P b := by simp [corC, natA]
  have t1 : 0 < crs (ptA P b).1 (ptA P b).2 (ptA P c).1 (ptA P c).2 (ptA P a).1 (ptA P a).2 := by rw [crs_cyc]; exact ht
  have t2 : 0 < crs (ptA P c).1 (ptA P c).2 (ptA P a).1 (ptA P a).2 (ptA P b).1 (ptA P b).2 := by rw [crs_cyc]; exact t1
  have hy : ¬ ((ptA P a).2 = (ptA P b).2 ∧ (ptA P b).2 = (ptA P c).2) := by
    rintro ⟨e1, e2⟩
    unfold crs at ht
    rw [e1, e2] at ht
    simp at ht
  have hok : okAll P [a, b, c] = true := by
    unfold okAll
    simp only [List.length_cons, List.length_nil, Nat.zero_add, Nat.reduceAdd]
    rw [List.all_eq_true]
    intro k hk
    have := List.mem_range.1 hk
    obtain rfl | rfl | rfl : k = 0 ∨ k = 1 ∨ k = 2 := by omega
    · rw [c0, c1, c2]; unfold okC; rw [decide_eq_true ht, Bool.true_or]
    · rw [c1, c2, c3]; unfold okC; rw [decide_eq_true t1, Bool.true_or]
    · rw [c2, c3, c4]; unfold okC; rw [decide_eq_true t2, Bool.true_or]
  have hcn : cntC P [a, b, c] 3 = 1 := by
    show ((0 + if riseC (corC P [a, b, c] 0) (corC P [a, b, c] 1) (corC P [a, b, c] 2) = true then 1 else 0) + if riseC (corC P [a, b, c] 1) (corC P [a, b, c] 2) (corC P [a, b, c] 3) = true then 1 else 0) + (if riseC (corC P [a, b, c] 2) (corC P [a, b, c] 3) (corC P [a, b, c] 4) = true then 1 else 0) = 1
    rw [c0, c1, c2, c3, c4]
    unfold riseC
    simp only [decide_eq_true_eq]
    generalize (ptA P a).2 = y0 at *
    generalize (ptA P b).2 = y1 at *
    generalize (ptA P c).2 = y2 at *
    split <;> split <;> split <;> omega
  unfold convexM
  rw [hok, show ([a, b, c] : List Nat).length = 3 from rfl, hcn]; rfl
theorem newM_ghosts : ghN (newM (a : Int) b c) (newM (a : Int) b c).length = 3 := by
  have m1 : ¬ (-1 : Int) = a := by omega
  have m2 : ¬ (-1 : Int) = b := by omega
  have m3 : ¬ (-1 : Int) = c := by omega
  have g1 : ¬ (a : Int) = -2 := by omega
  have g2 : ¬ (b : Int) = -2 := by omega
  have g3 : ¬ (c : Int) = -2 := by omega
  have p0 : placeM (newM (a : Int) b c) 0 (-1) = -1 := by simp [placeM, getT, newM, placeT, m1, m2, m3]
  have p1 : placeM (newM (a : Int) b c) 1 (-1) = 2 := by simp [placeM, getT, newM, goneB, placeT, m2, m3, g3]
  have p2 : placeM (newM (a : Int) b c) 2 (-1) = 2 := by simp [placeM, getT, newM, goneB, placeT, m1, m3, g1]
  have p3 : placeM (newM (a : Int) b c) 3 (-1) = 2 := by simp [placeM, getT, newM, goneB, placeT, m1, m2, g2]
  show ghN (newM (a : Int) b c) 4 = 3
  simp [ghN, p0, p1, p2, p3]
theorem newM_sound (ha : a < P.length) (hb : b < P.length) (hc : c < P.length) (ht : 0 < crs (ptA P a).1 (ptA P a).2 (ptA P b).1 (ptA P b).2 (ptA P c).1 (ptA P c).2) : SoundIs P (newM (a : Int) b c) true := by
  have hab : a ≠ b := by rintro rfl; unfold crs at ht; simp at ht
  have hac : a ≠ c := by rintro rfl; unfold crs at ht; simp at ht
  have hbc : b ≠ c := by
    rintro rfl
    have : crs (ptA P a).1 (ptA P a).2 (ptA P b).1 (ptA P b).2 (ptA P b).1 (ptA P b).2 = 0 := by unfold crs; rw [Int.mul_comm]; omega
    omega
  refine .inr ⟨rfl, fun k T hT => ?_, by rw [newM_border]; simp, by rw [newM_border, newM_ghosts]; rfl, [a, b, c], by rw [newM_border]; rfl, ?_, newM_convex ha hb hc ht⟩
  · unfold okT; rw [newM_formed ha hb hc ht k T hT, newM_links hab hbc hac k T hT]; simp
  · intro v hv; simp at hv; rcases hv with rfl | rfl | rfl <;> assumption
end
end Go.Proofs.Ytecnnpkpgbbfkaa
/- The triangles of the statements' grids: their edges, their border. Over no program; written ahead of layer 9's code. -/
namespace Go.MagM
/-- The squares of a grid, row by row. -/
def gridSq (w h : Nat) : List (Nat × Nat) := (List.range h).flatMap fun y => (List.range w).map fun x => (x, y)
/-- Both triangles of a square: by one diagonal, or by the other one. -/
def sqT (w : Nat) (p : Nat × Nat) (bit : Bool) : List (Nat × Nat × Nat) :=
  let a := p.2 * (w + 1) + p.1
  let b := p.2 * (w + 1) + (p.1 + 1)
  let c := (p.2 + 1) * (w + 1) + (p.1 + 1)
  let d := (p.2 + 1) * (w + 1) + p.1
  if bit then [(a, b, c), (c, d, a)] else [(b, d, a), (d, b, c)]
def gridT (w h bits : Nat) : List (Nat × Nat × Nat) := ((gridSq w h).zipIdx).flatMap fun q => sqT w q.1 (bits.testBit q.2)
def edgesT (T : List (Nat × Nat × Nat)) : List (Nat × Nat) := T.flatMap fun t => [(t.2.1, t.2.2), (t.2.2, t.1), (t.1, t.2.1)]
/-- Edges that have no other half. -/
def borderT (T : List (Nat × Nat × Nat)) : List (Nat × Nat) := (edgesT T).filter fun e => !(edgesT T).contains (e.2, e.1)
def crossN (w : Nat) (a b c : Nat) : Int :=
  let x := fun v : Nat => ((2 * (v % (w + 1)) : Nat) : Int)
  let y := fun v : Nat => ((2 * (v / (w + 1)) : Nat) : Int)
  (x b - x a) * (y c - y a) - (y b - y a) * (x c - x a)
def goodT (w h : Nat) (T : List (Nat × Nat × Nat)) : Bool :=
  (edgesT T).Nodup && (edgesT T).all (fun e => e.1 != e.2 && e.1 < (w + 1) * (h + 1)) && T.all (fun t => 0 < crossN w t.1 t.2.1 t.2.2) && T.length == 2 * w * h &&
    ((borderT T).map (·.1)).Nodup && ((borderT T).map (·.2)).Nodup && (borderT T).length == 2 * (w + h) && (borderT T).all (fun e => ((borderT T).map (·.2)).contains e.1 && ((borderT T).map (·.1)).contains e.2)
def allGood : Bool := [1, 2].all fun w => [1, 2].all fun h => (List.range 16).all fun bits => goodT w h (gridT w h bits)
set_option maxRecDepth 100000 in
theorem all_good : allGood = true := by decide +kernel
theorem grid_good {w h : Nat} (hw : w = 1 ∨ w = 2) (hh : h = 1 ∨ h = 2) {bits : Nat} (hb : bits < 16) : goodT w h (gridT w h bits) = true := by
  have := all_good
  unfold allGood at this
  rw [List.all_eq_true] at this
  have h1 := this w (by rcases hw with rfl | rfl <;> simp)
  rw [List.all_eq_true] at h1
  have h2 := h1 h (by rcases hh with rfl | rfl <;> simp)
  rw [List.all_eq_true] at h2
  exact h2 bits (List.mem_range.2 hb)
end Go.MagM
/- Triangles and ghosts: all their half-edges are distinct, and each has its other half. Over no program; written ahead of layer 9's code. -/
namespace Go.MagM
theorem nodup_inj {α β : Type} {f : α → β} : ∀ {l : List α}, (l.map f).Nodup → ∀ {x y : α}, x ∈ l → y ∈ l → f x = f y → x = y
  | a :: t, h, x, y, hx, hy, e => by
    have h' := List.nodup_cons.1 h
    rcases List.mem_cons.1 hx with hx | kx
    · rcases List.mem_cons.1 hy with hy | ky
      · rw [hx, hy]
      · exact absurd (List.mem_map.2 ⟨y, ky, by rw [← e, hx]⟩) h'.1
    · rcases List.mem_cons.1 hy with hy | ky
      · exact absurd (List.mem_map.2 ⟨x, kx, by rw [e, hy]⟩) h'.1
      · exact nodup_inj h'.2 kx ky e
/-- The edges of a triangle; its half-edges, its number being s. -/
def edgesV (V : Int × Int × Int) : List (Int × Int) := [(V.2.1, V.2.2), (V.2.2, V.1), (V.1, V.2.1)]
def halfV (s : Nat) (V : Int × Int × Int) : List HalfE := [(s, 0, (V.2.1, V.2.2)), (s, 1, (V.2.2, V.1)), (s, 2, (V.1, V.2.1))]
def halfEs (L : List (Nat × (Int × Int × Int))) : List HalfE := L.flatMap fun p => halfV p.1 p.2
theorem halfEs_edges : ∀ L, (halfEs L).map (fun x => x.2.2) = L.flatMap fun p => edgesV p.2
  | [] => rfl
  | p :: t => by
    have := halfEs_edges t
    unfold halfEs at this ⊢
    rw [List.flatMap_cons, List.map_append, this, List.flatMap_cons]; rfl
theorem mem_halfEs {L : List (Nat × (Int × Int × Int))} {t i : Nat} {e : Int × Int} : (t, i, e) ∈ halfEs L ↔ ∃ V, (t, V) ∈ L ∧ ((i = 0 ∧ e = (V.2.1, V.2.2)) ∨ (i = 1 ∧ e = (V.2.2, V.1)) ∨ (i = 2 ∧ e = (V.1, V.2.1))) := by
  unfold halfEs
  rw [List.mem_flatMap]
  constructor
  · rintro ⟨⟨s, V⟩, h1, h2⟩
    simp [halfV] at h2
    rcases h2 with ⟨rfl, rfl, rfl⟩ | ⟨rfl, rfl, rfl⟩ | ⟨rfl, rfl, rfl⟩
    · exact ⟨V, h1, .inl ⟨rfl, rfl⟩⟩
    · exact ⟨V, h1, .inr (.inl ⟨rfl, rfl⟩)⟩
    · exact ⟨V, h1, .inr (.inr ⟨rfl, rfl⟩)⟩
  · rintro ⟨V, h1, h2⟩
    refine ⟨(t, V), h1, ?_⟩
    simp [halfV]
    rcases h2 with ⟨rfl, rfl⟩ | ⟨rfl, rfl⟩ | ⟨rfl, rfl⟩ <;> simp
theorem distinct_of {L : List (Nat × (Int × Int × Int))} (hs : (L.map (·.1)).Nodup) (he : (L.flatMap fun p => edgesV p.2).Nodup) (hn : ∀ e, e ∈ (L.flatMap fun p => edgesV p.2) → e.1 ≠ e.2) : Distinct (halfEs L) := by
  rw [← halfEs_edges] at he hn
  refine ⟨fun t i u j e h1 h2 => ?_, fun t i e e' h1 h2 => ?_, fun t i a b h => ?_⟩
  · have := nodup_inj he h1 h2 rfl
    simp only [Prod.mk.injEq] at this
    exact ⟨this.1, this.2.1⟩
  · obtain ⟨V, v1, v2⟩ := mem_halfEs.1 h1
    obtain ⟨U, u1, u2⟩ := mem_halfEs.1 h2
    have := nodup_inj hs v1 u1 rfl
    simp only [Prod.mk.injEq, true_and] at this
    subst this
    rcases v2 with ⟨rfl, rfl⟩ | ⟨rfl, rfl⟩ | ⟨rfl, rfl⟩ <;> rcases u2 with ⟨k, rfl⟩ | ⟨k, rfl⟩ | ⟨k, rfl⟩ <;> first | rfl | omega
  · exact hn (a, b) (List.mem_map.2 ⟨_, h, rfl⟩)
/-- A triangle of points; a ghost behind an edge of the border. -/
def realV (t : Nat × Nat × Nat) : Int × Int × Int := ((t.1 : Int), (t.2.1 : Int), (t.2.2 : Int))
def ghostV (e : Nat × Nat) : Int × Int × Int := ((e.2 : Int), (e.1 : Int), -1)
def castE (e : Nat × Nat) : Int × Int := ((e.1 : Int), (e.2 : Int))
theorem castE_inj {a b : Nat × Nat} (h : castE a = castE b) : a = b := by
  unfold castE at h
  simp only [Prod.mk.injEq] at h
  exact Prod.ext (by omega) (by omega)
theorem real_edges : ∀ T : List (Nat × Nat × Nat), (T.map realV).flatMap edgesV = (edgesT T).map castE
  | [] => rfl
  | t :: r => by
    have := real_edges r
    unfold edgesT at this ⊢
    rw [List.map_cons, List.flatMap_cons, this, List.flatMap_cons, List.map_append]; rfl
theorem ghost_edges : ∀ Bd : List (Nat × Nat), ∀ e, e ∈ (Bd.map ghostV).flatMap edgesV ↔ ∃ x ∈ Bd, e = ((x.1 : Int), -1) ∨ e = (-1, (x.2 : Int)) ∨ e = ((x.2 : Int), (x.1 : Int)) := by
  intro Bd e
  simp only [List.mem_flatMap, List.mem_map]
  constructor
  · rintro ⟨V, ⟨x, hx, rfl⟩, h⟩
    simp [edgesV, ghostV] at h
    exact ⟨x, hx, h⟩
  · rintro ⟨x, hx, h⟩
    exact ⟨ghostV x, ⟨x, hx, rfl⟩, by simp [edgesV, ghostV]; exact h⟩
theorem ghost_nodup : ∀ Bd : List (Nat × Nat), (Bd.map (·.1)).Nodup → (Bd.map (·.2)).Nodup → ((Bd.map ghostV).flatMap edgesV).Nodup
  | [], _, _ => by simp
  | x :: t, h1, h2 => by
    have k1 := List.nodup_cons.1 h1
    have k2 := List.nodup_cons.1 h2
    rw [List.map_cons, List.flatMap_cons, List.nodup_append]
    refine ⟨?_, ghost_nodup t k1.2 k2.2, fun a ha b hb e => ?_⟩
    · simp [edgesV, ghostV]
    · subst e
      obtain ⟨y, hy, h⟩ := (ghost_edges t a).1 hb
      have y1 : y.1 ≠ x.1 := fun e => k1.1 (List.mem_map.2 ⟨y, hy, e⟩)
      have y2 : y.2 ≠ x.2 := fun e => k2.1 (List.mem_map.2 ⟨y, hy, e⟩)
      simp [edgesV, ghostV] at ha
      rcases ha with rfl | rfl | rfl <;> rcases h with h | h | h <;> simp only [Prod.mk.injEq] at h <;> omega
/-- What is known of a list of triangles, as a proposition. -/
structure Good (T : List (Nat × Nat × Nat)) : Prop where
  once : (edgesT T).Nodup
  apart : ∀ e, e ∈ edgesT T → e.1 ≠ e.2
  out : ((borderT T).map (·.1)).Nodup
  in_ : ((borderT T).map (·.2)).Nodup
  next : ∀ e, e ∈ borderT T → (∃ x, x ∈ borderT T ∧ x.2 = e.1) ∧ (∃ x, x ∈ borderT T ∧ x.1 = e.2)
theorem Good.of {w h : Nat} {T : List (Nat × Nat × Nat)} (g : goodT w h T = true) : Good T := by
  unfold goodT at g
  simp only [Bool.and_eq_true, decide_eq_true_eq, List.all_eq_true, bne_iff_ne, ne_eq, List.contains_iff_mem, beq_iff_eq] at g
  obtain ⟨⟨⟨⟨⟨⟨⟨g1, g2⟩, _⟩, _⟩, g3⟩, g4⟩, _⟩, g5⟩ := g
  refine ⟨g1, fun e he => (g2 e he).1, g3, g4, fun e he => ?_⟩
  obtain ⟨h1, h2⟩ := g5 e he
  obtain ⟨x, hx, hx2⟩ := List.mem_map.1 h1
  obtain ⟨y, hy, hy2⟩ := List.mem_map.1 h2
  exact ⟨⟨x, hx, hx2⟩, y, hy, hy2⟩
theorem mem_border {T : List (Nat × Nat × Nat)} {e : Nat × Nat} : e ∈ borderT T ↔ e ∈ edgesT T ∧ (e.2, e.1) ∉ edgesT T := by
  unfold borderT
  rw [List.mem_filter]
  simp
/-- All edges of the triangles, and of the ghosts behind the border, whatever the order of these. -/
def allE (T : List (Nat × Nat × Nat)) (Bd : List (Nat × Nat)) : List (Int × Int) := (T.map realV ++ Bd.map ghostV).flatMap edgesV
theorem all_nodup {T : List (Nat × Nat × Nat)} (g : Good T) {Bd : List (Nat × Nat)} (hp : Bd.Perm (borderT T)) : (allE T Bd).Nodup := by
  unfold allE
  rw [List.flatMap_append, real_edges, List.nodup_append]
  refine ⟨?_, ghost_nodup Bd (((hp.map _).nodup_iff).2 g.out) (((hp.map _).nodup_iff).2 g.in_), fun a ha b hb e => ?_⟩
  · exact List.Pairwise.map castE (fun a b h e => h (castE_inj e)) g.once
  · subst e
    obtain ⟨x, hx, rfl⟩ := List.mem_map.1 ha
    obtain ⟨y, hy, h⟩ := (ghost_edges Bd _).1 hb
    have hb' := (mem_border.1 (hp.mem_iff.1 hy)).2
    unfold castE at h
    rcases h with h | h | h <;> simp only [Prod.mk.injEq] at h
    · omega
    · omega
    · have : x = (y.2, y.1) := Prod.ext (by have := h.1; simp only []; omega) (by have := h.2; simp only []; omega)
      rw [this] at hx
      exact hb' hx
theorem all_apart {T : List (Nat × Nat × Nat)} (g : Good T) {Bd : List (Nat × Nat)} (hp : Bd.Perm (borderT T)) : ∀ e, e ∈ allE T Bd → e.1 ≠ e.2 := by
  intro e he
  unfold allE at he
  rw [List.flatMap_append, real_edges] at he
  rcases List.mem_append.1 he with he | he
  · obtain ⟨x, hx, rfl⟩ := List.mem_map.1 he
    have := g.apart x hx
    simp only [castE]; omega
  · obtain ⟨y, hy, h⟩ := (ghost_edges Bd _).1 he
    have := g.apart y (mem_border.1 (hp.mem_iff.1 hy)).1
    rcases h with rfl | rfl | rfl <;> simp only [] <;> omega
/-- Each edge has its other half. -/
theorem all_closed {T : List (Nat × Nat × Nat)} (g : Good T) {Bd : List (Nat × Nat)} (hp : Bd.Perm (borderT T)) : ∀ a b, (a, b) ∈ allE T Bd → (b, a) ∈ allE T Bd := by
  intro a b h
  unfold allE at h ⊢
  rw [List.flatMap_append, real_edges] at h ⊢
  rw [List.mem_append]
  rcases List.mem_append.1 h with h | h
  · obtain ⟨x, hx, e⟩ := List.mem_map.1 h
    simp only [castE, Prod.mk.injEq] at e
    obtain ⟨rfl, rfl⟩ := e
    by_cases hr : (x.2, x.1) ∈ edgesT T
    · exact .inl (List.mem_map.2 ⟨_, hr, rfl⟩)
    · exact .inr ((ghost_edges Bd _).2 ⟨x, hp.mem_iff.2 (mem_border.2 ⟨hx, hr⟩), .inr (.inr rfl)⟩)
  · obtain ⟨y, hy, e⟩ := (ghost_edges Bd _).1 h
    have hyb := hp.mem_iff.1 hy
    obtain ⟨⟨u, hu, hu2⟩, v, hv, hv2⟩ := g.next y hyb
    rcases e with e | e | e <;> simp only [Prod.mk.injEq] at e <;> obtain ⟨rfl, rfl⟩ := e
    · exact .inr ((ghost_edges Bd _).2 ⟨u, hp.mem_iff.2 hu, .inr (.inl (by rw [hu2]))⟩)
    · exact .inr ((ghost_edges Bd _).2 ⟨v, hp.mem_iff.2 hv, .inl (by rw [hv2])⟩)
    · exact .inl (List.mem_map.2 ⟨y, (mem_border.1 hyb).1, rfl⟩)
end Go.MagM
/- The statements' Build: join, by half-edges. -/
namespace Go.MagM
open Go.RowKit
def key2 (a b : Int) : Value := .agg #[.int .i64 a, .int .i64 b]
/-- An entry of the map of open edges. -/
def encO (x : (Int × Int) × Nat × Nat) : Value × Value := (key2 x.1.1 x.1.2, .agg #[.int .i64 (x.2.1 : Int), .int .i64 (x.2.2 : Int)])
theorem key2_inj {a b c d : Int} (h : key2 a b = key2 c d) : a = c ∧ b = d := by
  unfold key2 at h
  simp at h
  exact h
section
variable {P : Program}
/-- A map that tells which edges are faults. -/
def FaultMap (P : Program) (k : TypeId) (w : World) (fb : Nat) (F : Int → Int → Bool) : Prop :=
  ∃ m, MapB P k w fb m ∧ (∀ e, e ∈ m → ∃ a b, e = (key2 a b, .int .i64 1) ∧ F a b = true) ∧ (∀ a b, F a b = true → (key2 a b, .int .i64 1) ∈ m)
theorem FaultMap.same {k : TypeId} {w w' : World} {fb : Nat} {F : Int → Int → Bool} (h : FaultMap P k w fb F) (e : w'.heap[fb]? = w.heap[fb]?) : FaultMap P k w' fb F := by
  obtain ⟨m, h1, h2, h3⟩ := h
  exact ⟨m, h1.block e, h2, h3⟩
theorem FaultMap.lt {k : TypeId} {w : World} {fb : Nat} {F : Int → Int → Bool} (h : FaultMap P k w fb F) : fb < w.heap.size := by
  obtain ⟨m, h1, -⟩ := h; exact h1.lt
/-- But for a mesh and one block more w' is as w was. -/
structure Keep3 (w w' : World) (mb : Nat) (tv : Value) (ob : Nat) : Prop where
  os : w'.os = w.os
  tape : w'.tape = w.tape
  output : w'.output = w.output
  size : w.heap.size ≤ w'.heap.size
  keep : ∀ k, k < w.heap.size → k ≠ mb → tv.ownBlock ≠ some k → k ≠ ob → w'.heap[k]? = w.heap[k]?
theorem Keep3.refl (w : World) (mb : Nat) (tv : Value) (ob : Nat) : Keep3 w w mb tv ob := ⟨rfl, rfl, rfl, Nat.le_refl _, fun _ _ _ _ _ => rfl⟩
theorem Keep3.trans {a b c : World} {mb : Nat} {tv : Value} {ob : Nat} (h : Keep3 a b mb tv ob) (k : Keep3 b c mb tv ob) : Keep3 a c mb tv ob :=
  ⟨k.os.trans h.os, k.tape.trans h.tape, k.output.trans h.output, Nat.le_trans h.size k.size, fun i hi h1 h2 h3 => (k.keep i (Nat.lt_of_lt_of_le hi h.size) h1 h2 h3).trans (h.keep i hi h1 h2 h3)⟩
theorem Keep3.of_mut {w w' : World} {mb : Nat} {tv : Value} {ob : Nat} (h : Mut w w' mb tv tv) : Keep3 w w' mb tv ob := ⟨h.os, h.tape, h.output, h.size, fun k hk h1 h2 _ => (h.keep k hk h1 h2).1⟩
theorem Keep3.of_turned {w w' : World} {mb : Nat} {tv : Value} {ob : Nat} (h : Turned w w' ob) : Keep3 w w' mb tv ob := ⟨h.os, h.tape, h.output, by rw [h.size]; exact Nat.le_refl _, fun k _ _ _ h3 => h.block k h3⟩
theorem Keep3.of_below {w w' : World} {mb : Nat} {tv : Value} {ob : Nat} (h : Below w.heap.size w w') : Keep3 w w' mb tv ob := ⟨h.os, h.tape, h.output, h.size, fun k hk _ _ _ => h.block k hk⟩
theorem Keep3.below {w w' : World} {mb B ob : Nat} {tv : Value} (h : Keep3 w w' mb tv ob) (hB : B ≤ w.heap.size) (hm : B ≤ mb) (ho : B ≤ ob) (ht : ∀ k, tv.ownBlock = some k → B ≤ k) : Below B w w' :=
  ⟨h.os, h.tape, h.output, h.size, fun k hk => h.keep k (by omega) (by omega) (fun e => by have := ht k e; omega) (by omega)⟩
/-- A mesh stays where another block is turned. -/
theorem MeshO.turned {p e : TypeId} {w w' : World} {lo mb pb pc : Nat} {tv : Value} {P : List (Int × Int)} {S : List TriM} {ob : Nat} (h : MeshO p e w lo mb pb pc tv P S) (ht : Turned w w' ob) (h1 : mb ≠ ob) (h2 : pb ≠ ob) (h3 : tv.ownBlock ≠ some ob) : MeshO p e w' lo mb pb pc tv P S :=
  ⟨h.box.same (ht.block mb h1), owns_turned h.prow ht (fun e => h2 (by simpa [Value.ownBlock] using e)), owns_turned h.row ht h3, by rw [ht.size]; exact h.low, h.apart, h.short⟩
end
end Go.MagM
namespace Go.Proofs.Ytecnnpkpgbbfkaa
open Go.RowKit Go.MagM Go.Maps
/-- The map of open edges, looked up. -/
theorem open_look {w : World} {ob : Nat} {op : List ((Int × Int) × Nat × Nat)} (h : MapB Try.prog 22 w ob (op.map encO)) {a b : Int} (ha : -1000000 ≤ a ∧ a ≤ 1000000) (hb : -1000000 ≤ b ∧ b ≤ 1000000) :
    (∃ t i, ((a, b), t, i) ∈ op ∧ (Instr.lookup 78 (.map (some ob)) (.agg #[.int .i64 a, .int .i64 b]) true).run Try.prog w = .ok (.tuple #[.agg #[.int .i64 (t : Int), .int .i64 (i : Int)], .bool true]) w) ∨
    ((∀ t i, ((a, b), t, i) ∉ op) ∧ (Instr.lookup 78 (.map (some ob)) (.agg #[.int .i64 a, .int .i64 b]) true).run Try.prog w = .ok (.tuple #[.agg #[.int .i64 0, .int .i64 0], .bool false]) w) := by
  obtain ⟨l, hl⟩ := key2_of ha hb
  rcases h.look keyed2 Try.underlying78 hl (z := .agg #[.int .i64 0, .int .i64 0]) (by kernel_rfl) true with ⟨v, hv, hr⟩ | ⟨hno, hr⟩
  · obtain ⟨⟨⟨c, d⟩, t, i⟩, hx, e⟩ := List.mem_map.1 hv
    simp only [encO, Prod.mk.injEq] at e
    obtain ⟨e1, rfl⟩ := e
    obtain ⟨rfl, rfl⟩ := key2_inj e1
    exact .inl ⟨t, i, hx, hr⟩
  · refine .inr ⟨fun t i ht => hno _ (List.mem_map.2 ⟨_, ht, rfl⟩), hr⟩
/-- An open edge comes. -/
theorem open_store {w : World} {ob : Nat} {op : List ((Int × Int) × Nat × Nat)} (h : MapB Try.prog 22 w ob (op.map encO)) {a b : Int} (ha : -1000000 ≤ a ∧ a ≤ 1000000) (hb : -1000000 ≤ b ∧ b ≤ 1000000) (hno : ∀ t i, ((a, b), t, i) ∉ op) (t i : Nat) :
    ∃ w', (Instr.mapUpdate 78 (.map (some ob)) (.agg #[.int .i64 a, .int .i64 b]) (.agg #[.int .i64 (t : Int), .int .i64 (i : Int)])).run Try.prog w = .ok () w' ∧ Turned w w' ob ∧ MapB Try.prog 22 w' ob ((op ++ [((a, b), t, i)]).map encO) := by
  obtain ⟨l, hl⟩ := key2_of ha hb
  obtain ⟨w', m', h1, h2, h3, h4⟩ := h.store keyed2 Try.underlying78 hl (.agg #[.int .i64 (t : Int), .int .i64 (i : Int)])
  refine ⟨w', h1, h2, ?_⟩
  rcases h4 with ⟨-, rfl⟩ | ⟨j, u, hj, -⟩
  · rw [List.map_append]; exact h3
  · exfalso
    have hm := List.mem_of_getElem? hj
    obtain ⟨⟨⟨c, d⟩, t', i'⟩, hx, e⟩ := List.mem_map.1 hm
    simp only [encO, Prod.mk.injEq] at e
    obtain ⟨rfl, rfl⟩ := key2_inj e.1
    exact hno _ _ hx
/-- An open edge is closed. -/
theorem open_drop {w : World} {ob : Nat} {op : List ((Int × Int) × Nat × Nat)} (h : MapB Try.prog 22 w ob (op.map encO)) {a b : Int} (ha : -1000000 ≤ a ∧ a ≤ 1000000) (hb : -1000000 ≤ b ∧ b ≤ 1000000) {t i : Nat} (hin : ((a, b), t, i) ∈ op) (ty : TypeId) :
    ∃ (w' : World) (op' : List ((Int × Int) × Nat × Nat)), (Builtin.delete_ #[78, 22] ty #[.map (some ob), .agg #[.int .i64 a, .int .i64 b]]).run Try.prog w = .ok (.tuple #[]) w' ∧ Turned w w' ob ∧ MapB Try.prog 22 w' ob (op'.map encO) ∧ ∀ x, x ∈ op' ↔ x ∈ op ∧ x.1 ≠ (a, b) := by
  obtain ⟨l, hl⟩ := key2_of ha hb
  obtain ⟨w', m', h1, h2, h3, h4⟩ := h.drop keyed2 Try.underlying78 hl ty
  rcases h4 with ⟨hno, -⟩ | ⟨j, u, hj, rfl⟩
  · exact absurd (List.mem_map.2 ⟨_, hin, rfl⟩) (hno _)
  · have hjl : j < op.length := by have := (List.getElem?_eq_some_iff.1 hj).1; simpa using this
    have hoj : op[j]? = some op[j] := List.getElem?_eq_getElem hjl
    have hk : (op[j]).1 = (a, b) := by
      rw [List.getElem?_map, hoj] at hj
      simp only [Option.map_some, Option.some.injEq, encO, Prod.mk.injEq] at hj
      obtain ⟨e1, e2⟩ := key2_inj hj.1
      exact Prod.ext e1 e2
    have honce : (op.map (·.1)).Nodup := by
      have := h.once
      rw [List.map_map] at this
      exact List.Pairwise.of_map (S := (· ≠ ·)) (fun p : Int × Int => key2 p.1 p.2) (fun x y hne e => hne (by rw [e])) (by rw [List.map_map]; exact this)
    refine ⟨w', op.eraseIdx j, h1, h2, by rw [ChangeMaps.map_eraseIdx]; exact h3, fun x => ?_⟩
    constructor
    · intro hx
      obtain ⟨i', e⟩ := List.mem_iff_getElem?.1 hx
      refine ⟨(List.eraseIdx_sublist op j).subset hx, fun e1 => ?_⟩
      rw [List.getElem?_eraseIdx] at e
      have hne : ∀ i'', i'' ≠ j → op[i'']? = some x → False := by
        intro i'' hne hi
        have a1 : (op.map (·.1))[i'']? = some (a, b) := by rw [List.getElem?_map, hi, ← e1]; rfl
        have a2 : (op.map (·.1))[j]? = some (a, b) := by rw [List.getElem?_map, hoj, ← hk]; rfl
        exact hne ((List.getElem?_inj (by have := (List.getElem?_eq_some_iff.1 a1).1; exact this) honce).1 (a1.trans a2.symm))
      split at e
      · exact hne i' (by omega) e
      · exact hne (i' + 1) (by omega) e
    · rintro ⟨hx, hne⟩
      obtain ⟨i', hi⟩ := List.mem_iff_getElem?.1 hx
      have hij : i' ≠ j := by
        rintro rfl
        rw [hoj] at hi; cases hi
        exact hne hk
      rw [List.mem_iff_getElem?]
      rcases Nat.lt_or_ge i' j with g | g
      · exact ⟨i', by rw [List.getElem?_eraseIdx, if_pos g]; exact hi⟩
      · exact ⟨i' - 1, by rw [List.getElem?_eraseIdx, if_neg (by omega), show i' - 1 + 1 = i' by omega]; exact hi⟩
/-- Is an edge a fault? -/
theorem fault_look {w : World} {fb : Nat} {F : Int → Int → Bool} (h : FaultMap Try.prog 22 w fb F) {a b : Int} (ha : -1000000 ≤ a ∧ a ≤ 1000000) (hb : -1000000 ≤ b ∧ b ≤ 1000000) :
    (Instr.lookup 64 (.map (some fb)) (.agg #[.int .i64 a, .int .i64 b]) false).run Try.prog w = .ok (.int .i64 (if F a b then 1 else 0)) w := by
  obtain ⟨m, h1, h2, h3⟩ := h
  obtain ⟨l, hl⟩ := key2_of ha hb
  rcases h1.look keyed2 Try.underlying64 hl (z := .int .i64 0) (by kernel_rfl) false with ⟨v, hv, hr⟩ | ⟨hno, hr⟩
  · obtain ⟨c, d, e, hF⟩ := h2 _ hv
    simp only [Prod.mk.injEq] at e
    obtain ⟨e1, rfl⟩ := e
    obtain ⟨rfl, rfl⟩ := key2_inj e1
    rw [hF]; exact hr
  · have hF : F a b = false := by
      cases hf : F a b
      · rfl
      · exact absurd (h3 a b hf) (hno _)
    rw [hF]; exact hr
end Go.Proofs.Ytecnnpkpgbbfkaa
/- The statements' Build: join. -/
namespace Go.MagM
open Go.RowKit
theorem Distinct.sub {H K : List HalfE} (h : Distinct K) (hs : ∀ x, x ∈ H → x ∈ K) : Distinct H :=
  ⟨fun t i u j e h1 h2 => h.edge t i u j e (hs _ h1) (hs _ h2), fun t i e e' h1 h2 => h.place t i e e' (hs _ h1) (hs _ h2), fun t i a b h1 => h.apart t i a b (hs _ h1)⟩
theorem MeshO.drewN {p e : TypeId} {w : World} {lo mb pb pc : Nat} {tv : Value} {P : List (Int × Int)} {S : List TriM} (h : MeshO p e w lo mb pb pc tv P S) (q : Nat) : MeshO p e (w.drewN q) lo mb pb pc tv P S :=
  ⟨h.box.drewN q, h.prow, h.row, h.low, h.apart, h.short⟩
/-- The points of a triangle to come, by place. -/
def at3 (v0 v1 v2 : Int) : Nat → Int
  | 0 => v0
  | 1 => v1
  | _ => v2
/-- Its first i half-edges, and those that were there. -/
def halfI (H : List HalfE) (t : Nat) (v0 v1 v2 : Int) : Nat → List HalfE
  | 0 => H
  | i + 1 => (t, i, (at3 v0 v1 v2 ((i + 1) % 3), at3 v0 v1 v2 ((i + 2) % 3))) :: halfI H t v0 v1 v2 i
theorem halfI_mem {H : List HalfE} {t : Nat} {v0 v1 v2 : Int} {x : HalfE} : ∀ {i : Nat}, x ∈ halfI H t v0 v1 v2 i → x ∈ H ∨ (x.1 = t ∧ x.2.1 < i)
  | 0, h => .inl h
  | i + 1, h => by
    rcases List.mem_cons.1 h with rfl | h
    · exact .inr ⟨rfl, Nat.lt_succ_self i⟩
    · rcases halfI_mem h with h | ⟨h1, h2⟩
      · exact .inl h
      · exact .inr ⟨h1, by omega⟩
theorem halfI_sub {H : List HalfE} {t : Nat} {v0 v1 v2 : Int} {i : Nat} {x : HalfE} : ∀ (k : Nat), x ∈ halfI H t v0 v1 v2 i → x ∈ halfI H t v0 v1 v2 (i + k)
  | 0, h => h
  | k + 1, h => List.mem_cons_of_mem _ (halfI_sub k h)
/-- An edge is a fault, between points. -/
def faF (F : Int → Int → Bool) (a b : Int) : Bool := decide (0 ≤ a) && decide (0 ≤ b) && F (if b < a then b else a) (if a < b then b else a)
theorem faF_comm (F : Int → Int → Bool) (a b : Int) : faF F a b = faF F b a := by
  unfold faF
  have e1 : (if b < a then b else a) = (if a < b then a else b) := by split <;> split <;> omega
  have e2 : (if a < b then b else a) = (if b < a then a else b) := by split <;> split <;> omega
  rw [e1, e2, Bool.and_comm (decide (0 ≤ a))]
/-- What join leaves. -/
def JoinEnd (p e k : TypeId) (P0 : Program) (F : Int → Int → Bool) (w : World) (lo mb pb pc : Nat) (tv : Value) (ob : Nat) (P : List (Int × Int)) (S : List TriM) (H' : List HalfE) (w' : World) : Prop :=
  ∃ (S' : List TriM) (op' : List ((Int × Int) × Nat × Nat)), MeshO p e w' lo mb pb pc tv P S' ∧ MapB P0 k w' ob (op'.map encO) ∧ Joined (faF F) H' S' op' ∧ S'.length = S.length ∧ (∀ t', rdV S' t' = rdV S t') ∧ Keep3 w w' mb tv ob
end Go.MagM
namespace Go.Proofs.Ytecnnpkpgbbfkaa
open Go.RowKit Go.MagM
set_option maxRecDepth 100000 in
set_option maxHeartbeats 16000000 in
theorem join_any {lo mb pb pc : Nat} {tv : Value} {P : List (Int × Int)} {S : List TriM} (F : Int → Int → Bool) (H : List HalfE) (op0 : List ((Int × Int) × Nat × Nat)) (t : Nat) (v0 v1 v2 : Int) (Bo Bm Bf ob fb : Nat) (w : World) (h : MeshO 62 49 w lo mb pb pc tv P S)
    (hmap : MapB Try.prog 22 w ob (op0.map encO)) (hf : FaultMap Try.prog 22 w fb F) (xo : Box w Bo [.map (some ob)]) (xm : Box w Bm [.pointer (some ⟨mb, 0, none⟩)]) (xf : Box w Bf [.map (some fb)])
    (so : Bo ≠ mb ∧ tv.ownBlock ≠ some Bo ∧ Bo ≠ ob) (sm : Bm ≠ mb ∧ tv.ownBlock ≠ some Bm ∧ Bm ≠ ob) (sf : Bf ≠ mb ∧ tv.ownBlock ≠ some Bf ∧ Bf ≠ ob) (sfb : fb ≠ mb ∧ tv.ownBlock ≠ some fb ∧ fb ≠ ob) (sob : ob ≠ mb ∧ ob ≠ pb ∧ tv.ownBlock ≠ some ob)
    (hV : rdV S t = some (v0, v1, v2)) (hv0 : 0 ≤ v0) (hs : ∀ i, -1000000 ≤ at3 v0 v1 v2 i ∧ at3 v0 v1 v2 i ≤ 1000000)
    (hlive : ∀ t' i' e, (t', i', e) ∈ H → ∃ x y z, rdV S t' = some (x, y, z) ∧ 0 ≤ x) (hJ : Joined (faF F) H S op0) (hd : Distinct (halfI H t v0 v1 v2 3)) (hnew : ∀ i e, (t, i, e) ∉ H) :
    Calls Try.prog 40 #[.int .i64 (t : Int), .agg #[.int .i64 v0, .int .i64 v1, .int .i64 v2], .pointer (some ⟨Bo, 0, none⟩), .pointer (some ⟨Bm, 0, none⟩), .pointer (some ⟨Bf, 0, none⟩)] w fun e w' => e = .returned (.tuple #[]) ∧ JoinEnd 62 49 22 Try.prog F w lo mb pb pc tv ob P S (halfI H t v0 v1 v2 3) w' := by
  have H0 := Lib.hid h; have HMAP := Lib.hid hmap; have HF := Lib.hid hf; have HXO := Lib.hid xo; have HXM := Lib.hid xm; have HXF := Lib.hid xf
  have SO := Lib.hid so; have SM := Lib.hid sm; have SF := Lib.hid sf; have SFB := Lib.hid sfb; have OB := Lib.hid sob
  have HV := Lib.hid hV; have HSM := Lib.hid hs; have HLV := Lib.hid hlive; have HJ0 := Lib.hid hJ; have HD0 := Lib.hid hd; have HNEW := Lib.hid hnew; have HV0 := Lib.hid hv0
  have low := h.low
  have ltv : ∀ k, tv.ownBlock = some k → k < w.heap.size := fun k hk => (h.row.lt k hk).2
  have lob := hmap.lt
  clear h hmap hf xo xm xf so sm sf sfb sob hV hs hlive hJ hd hnew hv0
  obtain ⟨w1, hw1, pv_0, hb1, hs1⟩ := new_box w _ rfl [.int .i64 v0, .int .i64 v1, .int .i64 v2] 46
  have PV := Lib.hid pv_0
  have HST : Hid (JoinEnd 62 49 22 Try.prog F w lo mb pb pc tv ob P S (halfI H t v0 v1 v2 0) w1) := Lib.hid ⟨S, op0, H0.out.below hb1, HMAP.out.below hb1, HJ0.out, rfl, fun _ => rfl, Keep3.of_below hb1⟩
  clear pv_0
  have hsz : w.heap.size < w1.heap.size := by omega
  have hk1 : Keep3 w w1 mb tv ob := Keep3.of_below hb1
  have HK1 := Lib.hid hk1; have HB1 := Lib.hid hb1
  clear hk1 hb1 hs1
  go_enter Try.func40, Try.ntmps40
  go_wp2
  clear hw1
  go_loopw [7, 8, 9, 10, 11, 12] (fun _ _ _ _ _ iv wr => ∃ i : Nat, i ≤ 3 ∧ iv = .int .i64 i ∧ JoinEnd 62 49 22 Try.prog F w lo mb pb pc tv ob P S (halfI H t v0 v1 v2 i) wr ∧ Keep3 w1 wr mb tv ob) (fun _ _ _ _ _ iv _ => 3 - (intOf iv).toNat)
  case atStart => exact ⟨0, by omega, rfl, HST.out, Keep3.refl _ _ _ _⟩
  case round =>
    obtain ⟨i, hi, rfl, hje, hkk⟩ := hrel
    by_cases hlt : i < 3
    · obtain ⟨S', op', hm, hmap', hJ', hSl, hSv, hk⟩ := hje
      obtain ⟨j, hj⟩ : ∃ j, (i + 1) % 3 = j := ⟨_, rfl⟩
      have hjn : j < 3 := by omega
      obtain ⟨k, hk'⟩ : ∃ k, (i + 2) % 3 = k := ⟨_, rfl⟩
      have hkn : k < 3 := by omega
      obtain ⟨a, ha⟩ : ∃ a, at3 v0 v1 v2 j = a := ⟨_, rfl⟩
      obtain ⟨b, hb⟩ : ∃ b, at3 v0 v1 v2 k = b := ⟨_, rfl⟩
      have sa := HSM.out j; rw [ha] at sa
      have sb := HSM.out k; rw [hb] at sb
      have hpv := PV.out.same (hkk.keep w.heap.size hsz (by omega) (fun e => by have := ltv _ e; omega) (by omega))
      have hcj : wr.cell? ⟨w.heap.size, j, none⟩ = some (.int .i64 a) := by
        refine hpv.c j _ ?_
        rw [← ha]; clear hj
        obtain rfl | rfl | rfl : j = 0 ∨ j = 1 ∨ j = 2 := by omega
        all_goals rfl
      have hck : wr.cell? ⟨w.heap.size, k, none⟩ = some (.int .i64 b) := by
        refine hpv.c k _ ?_
        rw [← hb]; clear hk'
        obtain rfl | rfl | rfl : k = 0 ∨ k = 1 ∨ k = 2 := by omega
        all_goals rfl
      clear hpv
      have hw1' : IntKind.i64.wrap ((i : Int) + 1) = (i : Int) + 1 := by rw [IntKind.wrap_i64]; omega
      have hw2' : IntKind.i64.wrap ((i : Int) + 2) = (i : Int) + 2 := by rw [IntKind.wrap_i64]; omega
      have hm1 : ((i : Int) + 1).tmod 3 = (j : Int) := by have := mod_one i 3; rw [hj] at this; exact this
      have hm2 : ((i : Int) + 2).tmod 3 = (k : Int) := by have := mod_two i 3; rw [hk'] at this; exact this
      have b1 : (0 : Int) ≤ (j : Int) := by omega
      have b2 : (j : Int) < 3 := by omega
      have b3 : (0 : Int) ≤ (k : Int) := by omega
      have b4 : (k : Int) < 3 := by omega
      have HM := Lib.hid hm; have HMP := Lib.hid hmap'; have HJ := Lib.hid hJ'; have HSL := Lib.hid hSl; have HSV := Lib.hid hSv; have HK := Lib.hid hk; have HKK := Lib.hid hkk
      have HI1 := Lib.hid hj; have HI2 := Lib.hid hk'; have HVA := Lib.hid ha; have HVB := Lib.hid hb
      clear hm hmap' hJ' hSl hSv hk hkk hj hk' ha hb
      have key : ∀ q, ∃ w2, wr.drewN q = w2 ∧ MeshO 62 49 w2 lo mb pb pc tv P S' ∧ MapB Try.prog 22 w2 ob (op'.map encO) ∧ Keep3 w w2 mb tv ob ∧ Keep3 w1 w2 mb tv ob ∧ w2.heap.size = wr.heap.size := fun q =>
        ⟨_, rfl, HM.out.drewN q, HMP.out.block rfl, ⟨HK.out.os, HK.out.tape, HK.out.output, HK.out.size, HK.out.keep⟩, ⟨HKK.out.os, HKK.out.tape, HKK.out.output, HKK.out.size, HKK.out.keep⟩, rfl⟩
      have KEY := Lib.hid key; clear key HM HMP HK HKK
      go_wp2
      go_quiet (fail)
      obtain ⟨w2, hw2, hm2q, hmp2, hk2, hkk2, hsz2⟩ := KEY.out _
      rw [hw2]
      clear hw2 KEY hcj hck
      have HM := Lib.hid hm2q; have HMP := Lib.hid hmp2; have HK := Lib.hid hk2; have HKK := Lib.hid hkk2; have HSZ2 := Lib.hid hsz2
      have hxo2 := hk2.keep Bo (HXO.out.lt) SO.out.1 SO.out.2.1 SO.out.2.2
      have hxm2 := hk2.keep Bm (HXM.out.lt) SM.out.1 SM.out.2.1 SM.out.2.2
      have hxf2 := hk2.keep Bf (HXF.out.lt) SF.out.1 SF.out.2.1 SF.out.2.2
      have hfb2 := hk2.keep fb (HF.out.lt) SFB.out.1 SFB.out.2.1 SFB.out.2.2
      have XO := Lib.hid (HXO.out.same hxo2)
      have XM := Lib.hid (HXM.out.same hxm2)
      have XF := Lib.hid (HXF.out.same hxf2)
      have FM := Lib.hid (HF.out.same hfb2)
      clear hm2q hmp2 hk2 hkk2 hsz2 hxo2 hxm2 hxf2 hfb2
      have co2 := XO.out.c0
      -- what is known of the half-edge to come
      have hsub := Lib.hid (HD0.out.sub (H := halfI H t v0 v1 v2 (i + 1)) (fun x hx => by have := halfI_sub (3 - (i + 1)) hx; rwa [show i + 1 + (3 - (i + 1)) = 3 by omega] at this))
      have heq : halfI H t v0 v1 v2 (i + 1) = (t, i, (a, b)) :: halfI H t v0 v1 v2 i := by rw [halfI, HI1.out, HI2.out, HVA.out, HVB.out]
      have HEQ := Lib.hid heq; clear heq
      have hni : (t, i, (a, b)) ∉ halfI H t v0 v1 v2 i := fun hx => by
        rcases halfI_mem hx with hx | ⟨-, hx⟩
        · exact HNEW.out _ _ hx
        · exact Nat.lt_irrefl _ hx
      have HNI := Lib.hid hni; clear hni
      obtain ⟨T1, hT1, hG1⟩ := live_of ((HSV.out t).trans HV.out) HV0.out
      have htl : t < S'.length := (List.getElem?_eq_some_iff.1 hT1).1
      have HT1 := Lib.hid hT1; have HG1 := Lib.hid hG1; have HTL := Lib.hid htl
      clear hT1 hG1 htl
      obtain ⟨w3, hw3, hbx, hb3, hs3⟩ := new_box w2 _ rfl [.int .i64 0, .int .i64 0] 80
      have hlk := open_look HMP.out (a := b) (b := a) sb sa
      rcases hlk with ⟨u, jj, hin, hlk⟩ | ⟨hno, hlk⟩
      · have HIN := Lib.hid hin; clear hin
        obtain ⟨w4, hw4⟩ : ∃ w4, setAll w3 w2.heap.size 0 [.int .i64 (u : Int), .int .i64 (jj : Int)] = w4 := ⟨_, rfl⟩
        have BX := Lib.hid hbx; have HW4 := Lib.hid hw4
        have hx4 := hbx.setAll [.int .i64 (u : Int), .int .i64 (jj : Int)] rfl
        rw [hw4] at hx4
        have hB4 : Below w2.heap.size w2 w4 := by rw [← hw4]; exact ((hb3.setCell (Nat.le_refl _) _).setCell (Nat.le_refl _) _)
        have d0 := hbx.c0; have d1 := hbx.c1; have d2 := hbx.f 0 _ rfl; have d3 := hbx.f 1 _ rfl
        clear hbx hb3 hs3 hw4
        have hw4' : (w3.setCell ⟨w2.heap.size, 0, none⟩ (.int .i64 (u : Int))).setCell ⟨w2.heap.size, 1, none⟩ (.int .i64 (jj : Int)) = w4 := HW4.out
        have HB4 := Lib.hid hB4; have HX4 := Lib.hid hx4; clear hB4 hx4
        go_wp2_with fail
        try rw [hw4']
        clear hw3 hw4' hlk BX d0 d1 d2 d3 HW4 co2
        have k4 : Keep3 w2 w4.drew mb tv ob := (Keep3.of_below (HB4.out.drew'))
        have K4 := Lib.hid k4; clear k4
        have x5 : Box w4.drew w2.heap.size [.int .i64 (u : Int), .int .i64 (jj : Int)] := HX4.out.drew
        obtain ⟨w5, hw5⟩ : ∃ w5, w4.drew = w5 := ⟨_, rfl⟩
        rw [hw5] at K4 x5
        have HM5 : Hid (MeshO 62 49 w5 lo mb pb pc tv P S') := Lib.hid (by rw [← hw5]; exact (HM.out.below HB4.out).drew)
        have HMP5 : Hid (MapB Try.prog 22 w5 ob (op'.map encO)) := Lib.hid (by rw [← hw5]; exact (HMP.out.below HB4.out).drew)
        have HK5 := Lib.hid (HK.out.trans K4.out); have HKK5 := Lib.hid (HKK.out.trans K4.out)
        have XO5 := Lib.hid (XO.out.same (K4.out.keep Bo XO.out.lt SO.out.1 SO.out.2.1 SO.out.2.2))
        have xm5 := XM.out.same (K4.out.keep Bm XM.out.lt SM.out.1 SM.out.2.1 SM.out.2.2)
        have xf5 := XF.out.same (K4.out.keep Bf XF.out.lt SF.out.1 SF.out.2.1 SF.out.2.2)
        have fm5 := FM.out.same (K4.out.keep fb FM.out.lt SFB.out.1 SFB.out.2.1 SFB.out.2.2)
        have c1 := xm5.c0; have c2 := xf5.c0; have d0 := x5.c0; have d1 := x5.c1
        have hfl := fault_look fm5 (a := if b < a then b else a) (b := if a < b then b else a) (by split <;> omega) (by split <;> omega)
        have hjj := (HJ.out.wait b a u jj).1 HIN.out
        have hj3 : jj < 3 := (HJ.out.small u jj _ hjj.1).2
        have hUU : ∃ U1, S'[u]? = some U1 ∧ goneB U1 = false := by
          rcases halfI_mem hjj.1 with hx | ⟨hx, -⟩
          · obtain ⟨x, y, z, hx, h0⟩ := HLV.out _ _ _ hx
            exact live_of ((HSV.out u).trans hx) h0
          · subst hx; exact ⟨T1, HT1.out, HG1.out⟩
        obtain ⟨U1, hU1, hG2⟩ := hUU
        have HU1 := Lib.hid hU1; have HG2 := Lib.hid hG2
        clear hjj hU1 hG2 xm5 xf5 fm5 x5 K4
        by_cases ha0 : 0 ≤ a
        · have hda : decide (0 ≤ a) = true := decide_eq_true ha0
          by_cases hb0 : 0 ≤ b
          · have hdb : decide (0 ≤ b) = true := decide_eq_true hb0
            clear ha0 hb0
            obtain ⟨ff, hff⟩ : ∃ ff, F (if b < a then b else a) (if a < b then b else a) = ff := ⟨_, rfl⟩
            have HFA : Hid (faF F a b = ff) := Lib.hid (by unfold faF; rw [hda, hdb]; exact hff)
            rw [hff] at hfl
            clear hff
            cases ff
            · have hfl : (Instr.lookup 64 (.map (some fb)) (.agg #[.int .i64 (if b < a then b else a), .int .i64 (if a < b then b else a)]) false).run Try.prog w5 = .ok (.int .i64 0) w5 := hfl
              refine wp_region_still_tail 25 (by kernel_rfl) (by kernel_rfl) ?_
              show wpStill _ _ w4.drew (fun a' => wpList _ _ _ _ a' w4.drew) _ _
              rw [hw5]
              simp only [List.take_succ_cons, List.take_zero, List.drop_succ_cons, List.drop_zero]
              iterate 25
                with_reducible refine wpStill_step (fun K hK => ?_)
                go_simp
                with_reducible refine hK _ ?_
                clear hK K
              with_reducible refine wpStill_nil ?_
              try clear hfl
              go_wp2_with fail
              all_goals (
                refine (Link_any t i u jj false T1 U1 w5 HM5.out HT1.out HG1.out hlt HU1.out HG2.out hj3).mono ?_
                rintro e w6 ⟨rfl, hm6, mu6⟩
                have k6 : Keep3 w5 w6 mb tv ob := Keep3.of_mut mu6
                have hmap6 : MapB Try.prog 22 w6 ob (op'.map encO) := HMP5.out.block (mu6.keep ob HMP5.out.lt OB.out.1 OB.out.2.2).1
                obtain ⟨w7, op7, hdr, htu7, hmap7, hop7⟩ := open_drop hmap6 (a := b) (b := a) sb sa HIN.out 0
                have hJ7 := HJ.out.link (faF_comm F) (by have := hsub.out; rw [HEQ.out] at this; exact this) HNI.out HTL.out hlt HIN.out hop7
                have hfa : faF F a b = false := HFA.out
                rw [hfa] at hJ7
                have k7 := (HK5.out.trans k6).trans (Keep3.of_turned htu7)
                have kk7 := (HKK5.out.trans k6).trans (Keep3.of_turned htu7)
                have co6 : w6.cell? ⟨Bo, 0, none⟩ = some (.map (some ob)) := (XO5.out.same (k6.keep Bo XO5.out.lt SO.out.1 SO.out.2.1 SO.out.2.2)).c0
                have HJE : Hid (JoinEnd 62 49 22 Try.prog F w lo mb pb pc tv ob P S (halfI H t v0 v1 v2 (i + 1)) w7 ∧ Keep3 w1 w7 mb tv ob) := Lib.hid ⟨⟨_, op7, hm6.turned htu7 (fun e => OB.out.1 e.symm) (fun e => OB.out.2.1 e.symm) OB.out.2.2, hmap7, (by rw [HEQ.out]; exact hJ7), by rw [linkL_len]; exact HSL.out, fun t' => by rw [linkL_v]; exact HSV.out t', k7⟩, kk7⟩
                clear hm6 mu6 hmap6 htu7 hmap7 hop7 hJ7 hfa k7 kk7 k6
                go_wp2
                exact ⟨⟨i + 1, by omega, by go_num, HJE.out.1, HJE.out.2⟩, by simp [intOf]; omega⟩)
            · have hfl : (Instr.lookup 64 (.map (some fb)) (.agg #[.int .i64 (if b < a then b else a), .int .i64 (if a < b then b else a)]) false).run Try.prog w5 = .ok (.int .i64 1) w5 := hfl
              refine wp_region_still_tail 25 (by kernel_rfl) (by kernel_rfl) ?_
              show wpStill _ _ w4.drew (fun a' => wpList _ _ _ _ a' w4.drew) _ _
              rw [hw5]
              simp only [List.take_succ_cons, List.take_zero, List.drop_succ_cons, List.drop_zero]
              iterate 25
                with_reducible refine wpStill_step (fun K hK => ?_)
                go_simp
                with_reducible refine hK _ ?_
                clear hK K
              with_reducible refine wpStill_nil ?_
              try clear hfl
              go_wp2_with fail
              all_goals (
                refine (Link_any t i u jj true T1 U1 w5 HM5.out HT1.out HG1.out hlt HU1.out HG2.out hj3).mono ?_
                rintro e w6 ⟨rfl, hm6, mu6⟩
                have k6 : Keep3 w5 w6 mb tv ob := Keep3.of_mut mu6
                have hmap6 : MapB Try.prog 22 w6 ob (op'.map encO) := HMP5.out.block (mu6.keep ob HMP5.out.lt OB.out.1 OB.out.2.2).1
                obtain ⟨w7, op7, hdr, htu7, hmap7, hop7⟩ := open_drop hmap6 (a := b) (b := a) sb sa HIN.out 0
                have hJ7 := HJ.out.link (faF_comm F) (by have := hsub.out; rw [HEQ.out] at this; exact this) HNI.out HTL.out hlt HIN.out hop7
                have hfa : faF F a b = true := HFA.out
                rw [hfa] at hJ7
                have k7 := (HK5.out.trans k6).trans (Keep3.of_turned htu7)
                have kk7 := (HKK5.out.trans k6).trans (Keep3.of_turned htu7)
                have co6 : w6.cell? ⟨Bo, 0, none⟩ = some (.map (some ob)) := (XO5.out.same (k6.keep Bo XO5.out.lt SO.out.1 SO.out.2.1 SO.out.2.2)).c0
                have HJE : Hid (JoinEnd 62 49 22 Try.prog F w lo mb pb pc tv ob P S (halfI H t v0 v1 v2 (i + 1)) w7 ∧ Keep3 w1 w7 mb tv ob) := Lib.hid ⟨⟨_, op7, hm6.turned htu7 (fun e => OB.out.1 e.symm) (fun e => OB.out.2.1 e.symm) OB.out.2.2, hmap7, (by rw [HEQ.out]; exact hJ7), by rw [linkL_len]; exact HSL.out, fun t' => by rw [linkL_v]; exact HSV.out t', k7⟩, kk7⟩
                clear hm6 mu6 hmap6 htu7 hmap7 hop7 hJ7 hfa k7 kk7 k6
                go_wp2
                exact ⟨⟨i + 1, by omega, by go_num, HJE.out.1, HJE.out.2⟩, by simp [intOf]; omega⟩)
          · have hdb : decide (0 ≤ b) = false := decide_eq_false hb0
            have HFA : Hid (faF F a b = false) := Lib.hid (by unfold faF; rw [hda, hdb]; rfl)
            clear ha0 hb0 hfl
            refine wp_region_still_tail 25 (by kernel_rfl) (by kernel_rfl) ?_
            show wpStill _ _ w4.drew (fun a' => wpList _ _ _ _ a' w4.drew) _ _
            rw [hw5]
            simp only [List.take_succ_cons, List.take_zero, List.drop_succ_cons, List.drop_zero]
            iterate 25
              with_reducible refine wpStill_step (fun K hK => ?_)
              go_simp
              with_reducible refine hK _ ?_
              clear hK K
            with_reducible refine wpStill_nil ?_
            try clear hfl
            go_wp2_with fail
            all_goals (
              refine (Link_any t i u jj false T1 U1 w5 HM5.out HT1.out HG1.out hlt HU1.out HG2.out hj3).mono ?_
              rintro e w6 ⟨rfl, hm6, mu6⟩
              have k6 : Keep3 w5 w6 mb tv ob := Keep3.of_mut mu6
              have hmap6 : MapB Try.prog 22 w6 ob (op'.map encO) := HMP5.out.block (mu6.keep ob HMP5.out.lt OB.out.1 OB.out.2.2).1
              obtain ⟨w7, op7, hdr, htu7, hmap7, hop7⟩ := open_drop hmap6 (a := b) (b := a) sb sa HIN.out 0
              have hJ7 := HJ.out.link (faF_comm F) (by have := hsub.out; rw [HEQ.out] at this; exact this) HNI.out HTL.out hlt HIN.out hop7
              have hfa : faF F a b = false := HFA.out
              rw [hfa] at hJ7
              have k7 := (HK5.out.trans k6).trans (Keep3.of_turned htu7)
              have kk7 := (HKK5.out.trans k6).trans (Keep3.of_turned htu7)
              have co6 : w6.cell? ⟨Bo, 0, none⟩ = some (.map (some ob)) := (XO5.out.same (k6.keep Bo XO5.out.lt SO.out.1 SO.out.2.1 SO.out.2.2)).c0
              have HJE : Hid (JoinEnd 62 49 22 Try.prog F w lo mb pb pc tv ob P S (halfI H t v0 v1 v2 (i + 1)) w7 ∧ Keep3 w1 w7 mb tv ob) := Lib.hid ⟨⟨_, op7, hm6.turned htu7 (fun e => OB.out.1 e.symm) (fun e => OB.out.2.1 e.symm) OB.out.2.2, hmap7, (by rw [HEQ.out]; exact hJ7), by rw [linkL_len]; exact HSL.out, fun t' => by rw [linkL_v]; exact HSV.out t', k7⟩, kk7⟩
              clear hm6 mu6 hmap6 htu7 hmap7 hop7 hJ7 hfa k7 kk7 k6
              go_wp2
              exact ⟨⟨i + 1, by omega, by go_num, HJE.out.1, HJE.out.2⟩, by simp [intOf]; omega⟩)
        · have hda : decide (0 ≤ a) = false := decide_eq_false ha0
          have HFA : Hid (faF F a b = false) := Lib.hid (by unfold faF; rw [hda]; rfl)
          clear ha0 hfl
          refine wp_region_still_tail 25 (by kernel_rfl) (by kernel_rfl) ?_
          show wpStill _ _ w4.drew (fun a' => wpList _ _ _ _ a' w4.drew) _ _
          rw [hw5]
          simp only [List.take_succ_cons, List.take_zero, List.drop_succ_cons, List.drop_zero]
          iterate 25
            with_reducible refine wpStill_step (fun K hK => ?_)
            go_simp
            with_reducible refine hK _ ?_
            clear hK K
          with_reducible refine wpStill_nil ?_
          try clear hfl
          go_wp2_with fail
          all_goals (
            refine (Link_any t i u jj false T1 U1 w5 HM5.out HT1.out HG1.out hlt HU1.out HG2.out hj3).mono ?_
            rintro e w6 ⟨rfl, hm6, mu6⟩
            have k6 : Keep3 w5 w6 mb tv ob := Keep3.of_mut mu6
            have hmap6 : MapB Try.prog 22 w6 ob (op'.map encO) := HMP5.out.block (mu6.keep ob HMP5.out.lt OB.out.1 OB.out.2.2).1
            obtain ⟨w7, op7, hdr, htu7, hmap7, hop7⟩ := open_drop hmap6 (a := b) (b := a) sb sa HIN.out 0
            have hJ7 := HJ.out.link (faF_comm F) (by have := hsub.out; rw [HEQ.out] at this; exact this) HNI.out HTL.out hlt HIN.out hop7
            have hfa : faF F a b = false := HFA.out
            rw [hfa] at hJ7
            have k7 := (HK5.out.trans k6).trans (Keep3.of_turned htu7)
            have kk7 := (HKK5.out.trans k6).trans (Keep3.of_turned htu7)
            have co6 : w6.cell? ⟨Bo, 0, none⟩ = some (.map (some ob)) := (XO5.out.same (k6.keep Bo XO5.out.lt SO.out.1 SO.out.2.1 SO.out.2.2)).c0
            have HJE : Hid (JoinEnd 62 49 22 Try.prog F w lo mb pb pc tv ob P S (halfI H t v0 v1 v2 (i + 1)) w7 ∧ Keep3 w1 w7 mb tv ob) := Lib.hid ⟨⟨_, op7, hm6.turned htu7 (fun e => OB.out.1 e.symm) (fun e => OB.out.2.1 e.symm) OB.out.2.2, hmap7, (by rw [HEQ.out]; exact hJ7), by rw [linkL_len]; exact HSL.out, fun t' => by rw [linkL_v]; exact HSV.out t', k7⟩, kk7⟩
            clear hm6 mu6 hmap6 htu7 hmap7 hop7 hJ7 hfa k7 kk7 k6
            go_wp2
            exact ⟨⟨i + 1, by omega, by go_num, HJE.out.1, HJE.out.2⟩, by simp [intOf]; omega⟩)
      · have HNO := Lib.hid hno; clear hno
        obtain ⟨w4, hw4⟩ : ∃ w4, setAll w3 w2.heap.size 0 [.int .i64 0, .int .i64 0] = w4 := ⟨_, rfl⟩
        have HW4 := Lib.hid hw4
        have hB4 : Below w2.heap.size w2 w4 := by rw [← hw4]; exact ((hb3.setCell (Nat.le_refl _) _).setCell (Nat.le_refl _) _)
        have d0 := hbx.c0; have d1 := hbx.c1; have d2 := hbx.f 0 _ rfl; have d3 := hbx.f 1 _ rfl
        have k4 : Keep3 w2 w4 mb tv ob := Keep3.of_below hB4
        have hmp4 : MapB Try.prog 22 w4 ob (op'.map encO) := HMP.out.below hB4
        have hnow : ∀ u j, ((a, b), u, j) ∉ op' := fun u j hx => by
          obtain ⟨hx1, -⟩ := (HJ.out.wait a b u j).1 hx
          have h2 := hsub.out; rw [HEQ.out] at h2
          obtain ⟨rfl, rfl⟩ := h2.edge t i u j (a, b) (List.mem_cons_self ..) (List.mem_cons_of_mem _ hx1)
          exact HNI.out hx1
        obtain ⟨w5, hst, htu5, hmp5⟩ := open_store hmp4 sa sb hnow t i
        have co4 : w4.cell? ⟨Bo, 0, none⟩ = some (.map (some ob)) := (XO.out.same (k4.keep Bo XO.out.lt SO.out.1 SO.out.2.1 SO.out.2.2)).c0
        have hJ5 := HJ.out.wait_one (by have := hsub.out; rw [HEQ.out] at this; exact this) HNI.out HTL.out hlt HNO.out (op' := op' ++ [((a, b), t, i)]) (fun x => by simp)
        have k5 := (HK.out.trans k4).trans (Keep3.of_turned htu5)
        have kk5 := (HKK.out.trans k4).trans (Keep3.of_turned htu5)
        have HJE : Hid (JoinEnd 62 49 22 Try.prog F w lo mb pb pc tv ob P S (halfI H t v0 v1 v2 (i + 1)) w5 ∧ Keep3 w1 w5 mb tv ob) := Lib.hid ⟨⟨S', _, (HM.out.below hB4).turned htu5 (fun e => OB.out.1 e.symm) (fun e => OB.out.2.1 e.symm) OB.out.2.2, hmp5, (by rw [HEQ.out]; exact hJ5), HSL.out, HSV.out, k5⟩, kk5⟩
        have hw4' : (w3.setCell ⟨w2.heap.size, 0, none⟩ (.int .i64 0)).setCell ⟨w2.heap.size, 1, none⟩ (.int .i64 0) = w4 := HW4.out
        clear hbx hb3 hs3 hw4 hB4 k4 hmp4 hnow htu5 hmp5 hJ5 k5 kk5
        go_wp2
        exact ⟨⟨i + 1, by omega, by go_num, HJE.out.1, HJE.out.2⟩, by simp [intOf]; omega⟩
    · obtain rfl : i = 3 := by omega
      clear hi hlt
      have HJE := Lib.hid hje; clear hje hkk
      go_wp2
      go_end0
      exact ⟨rfl, HJE.out⟩
end Go.Proofs.Ytecnnpkpgbbfkaa
/- What the statements' Build has made so far: triangles one behind the other, in the slots that New left free first. Pure. -/
namespace Go.MagM
/-- All half-edges of these triangles, the last one first. -/
def hRev : List (Int × Int × Int) → List HalfE
  | [] => []
  | v :: r => halfI (hRev r) r.length v.1 v.2.1 v.2.2 3
theorem hRev_mem {x : HalfE} : ∀ {R : List (Int × Int × Int)}, x ∈ hRev R ↔ ∃ v, R.reverse[x.1]? = some v ∧ x ∈ halfV x.1 v
  | [] => by simp [hRev]
  | v :: r => by
    have ih := hRev_mem (x := x) (R := r)
    have e : x ∈ hRev (v :: r) ↔ x ∈ halfV r.length v ∨ x ∈ hRev r := by
      show x ∈ (_, _, _) :: (_, _, _) :: (_, _, _) :: hRev r ↔ x ∈ [_, _, _] ∨ _
      simp only [List.mem_cons, List.not_mem_nil, or_false]
      constructor
      · rintro (h | h | h | h)
        · exact .inl (.inr (.inr h))
        · exact .inl (.inr (.inl h))
        · exact .inl (.inl h)
        · exact .inr h
      · rintro ((h | h | h) | h)
        · exact .inr (.inr (.inl h))
        · exact .inr (.inl h)
        · exact .inl h
        · exact .inr (.inr (.inr h))
    have hv : ∀ {t : Nat} {u : Int × Int × Int}, x ∈ halfV t u → x.1 = t := by
      intro t u h
      simp only [halfV, List.mem_cons, List.not_mem_nil, or_false] at h
      rcases h with rfl | rfl | rfl <;> rfl
    rw [e, ih]
    constructor
    · rintro (h | ⟨u, h1, h2⟩)
      · have := hv h
        refine ⟨v, ?_, by rw [this]; exact h⟩
        rw [this, List.reverse_cons, List.getElem?_append_right (by simp)]; simp
      · refine ⟨u, ?_, h2⟩
        have hl := (List.getElem?_eq_some_iff.1 h1).1
        rw [List.reverse_cons, List.getElem?_append_left hl]; exact h1
    · rintro ⟨u, h1, h2⟩
      rw [List.reverse_cons] at h1
      rcases Nat.lt_or_ge x.1 r.reverse.length with hl | hl
      · rw [List.getElem?_append_left hl] at h1
        exact .inr ⟨u, h1, h2⟩
      · rw [List.getElem?_append_right hl] at h1
        have hx : x.1 - r.reverse.length = 0 := by
          have := (List.getElem?_eq_some_iff.1 h1).1; simp at this ⊢; omega
        rw [hx] at h1
        simp at h1; subst h1
        have : x.1 = r.length := by simp at hl hx; omega
        rw [this] at h2; exact .inl h2
/-- These triangles lie in the slots, from the first one on; of New's four slots the others are gone. -/
structure BuiltS (S : List TriM) (R : List (Int × Int × Int)) : Prop where
  len : S.length = max 4 R.length
  v : ∀ t x, R.reverse[t]? = some x → rdV S t = some x
  gone : ∀ t, R.length ≤ t → t < 4 → rdV S t = some (-2, -2, -2)
  live : ∀ x, x ∈ R → 0 ≤ x.1
theorem BuiltS.same {S S' : List TriM} {R : List (Int × Int × Int)} (h : BuiltS S R) (hl : S'.length = S.length) (hv : ∀ t, rdV S' t = rdV S t) : BuiltS S' R :=
  ⟨hl.trans h.len, fun t x hx => (hv t).trans (h.v t x hx), fun t h1 h2 => (hv t).trans (h.gone t h1 h2), h.live⟩
theorem gone_of {S : List TriM} {t : Nat} (h : rdV S t = some (-2, -2, -2)) : ∃ T, S[t]? = some T ∧ goneB T = true := by
  obtain ⟨T, h1, h2, h3, h4⟩ := rdV_some h
  exact ⟨T, h1, by unfold goneB; exact decide_eq_true ⟨h2, h3, h4⟩⟩
theorem BuiltS.live_at {S : List TriM} {R : List (Int × Int × Int)} (h : BuiltS S R) {t : Nat} (ht : t < R.length) : ∃ T, S[t]? = some T ∧ goneB T = false := by
  obtain ⟨x, hx⟩ : ∃ x, R.reverse[t]? = some x := ⟨_, List.getElem?_eq_getElem (by simpa using ht)⟩
  have h0 := h.live x (List.mem_reverse.1 (List.mem_of_getElem? hx))
  obtain ⟨a, b, c⟩ := x
  exact live_of (h.v t _ hx) h0
theorem BuiltS.free {S : List TriM} {R : List (Int × Int × Int)} (h : BuiltS S R) : freeK S = if R.length < 4 then some R.length else none := by
  unfold freeK
  have hl := h.len
  split
  · rename_i hlt
    have e : R.length < S.length := by omega
    obtain ⟨T, hT, hg⟩ := gone_of (h.gone R.length (Nat.le_refl _) hlt)
    rw [List.findIdx?_eq_some_iff_getElem]
    refine ⟨e, ?_, fun j hj => ?_⟩
    · have := (List.getElem?_eq_some_iff.1 hT).2
      rw [this]; exact hg
    · obtain ⟨U, hU, hgU⟩ := h.live_at hj
      have := (List.getElem?_eq_some_iff.1 hU).2
      rw [this, hgU]; exact Bool.noConfusion
  · rename_i hge
    rw [List.findIdx?_eq_none_iff]
    intro T hT
    obtain ⟨j, hj⟩ := List.mem_iff_getElem?.1 hT
    have hjl := (List.getElem?_eq_some_iff.1 hj).1
    obtain ⟨U, hU, hgU⟩ := h.live_at (t := j) (by omega)
    rw [hj] at hU; cases hU; exact hgU
theorem BuiltS.slot {S : List TriM} {R : List (Int × Int × Int)} (h : BuiltS S R) : makeK S = R.length := by
  unfold makeK
  rw [h.free]
  have := h.len
  by_cases hlt : R.length < 4
  · rw [if_pos hlt]
  · rw [if_neg hlt]; simp only []; omega
theorem BuiltS.make_at {S : List TriM} {R : List (Int × Int × Int)} (h : BuiltS S R) (a b c : Int) (t : Nat) : (makeM S a b c)[t]? = if t = R.length then some (newT a b c) else S[t]? := by
  unfold makeM
  rw [h.free]
  have := h.len
  by_cases hlt : R.length < 4
  · rw [if_pos hlt]
    simp only []
    rw [List.getElem?_set]
    by_cases e : R.length = t
    · rw [if_pos e, if_pos e.symm, if_pos (by omega)]
    · rw [if_neg e, if_neg (fun x => e x.symm)]
  · rw [if_neg hlt]
    simp only []
    by_cases e : t = R.length
    · rw [if_pos e, List.getElem?_append_right (by omega), show t - S.length = 0 by omega]; rfl
    · rw [if_neg e]
      rcases Nat.lt_or_ge t S.length with g | g
      · rw [List.getElem?_append_left g]
      · rw [List.getElem?_append_right g, List.getElem?_eq_none g, List.getElem?_eq_none (by simp; omega)]
theorem BuiltS.make_len {S : List TriM} {R : List (Int × Int × Int)} (h : BuiltS S R) (a b c : Int) : (makeM S a b c).length = max 4 (R.length + 1) := by
  unfold makeM
  rw [h.free]
  have := h.len
  by_cases hlt : R.length < 4
  · rw [if_pos hlt]; simp only [List.length_set]; omega
  · rw [if_neg hlt]; simp only [List.length_append, List.length_cons, List.length_nil]; omega
theorem BuiltS.make {S : List TriM} {R : List (Int × Int × Int)} (h : BuiltS S R) (a b c : Int) (h0 : 0 ≤ a) : BuiltS (makeM S a b c) ((a, b, c) :: R) := by
  have hat : ∀ t, rdV (makeM S a b c) t = if t = R.length then some (a, b, c) else rdV S t := fun t => by
    unfold rdV; rw [h.make_at]; split <;> rfl
  refine ⟨by rw [h.make_len]; rfl, fun t x hx => ?_, fun t h1 h2 => ?_, fun x hx => ?_⟩
  · rw [hat]
    rw [List.reverse_cons] at hx
    rcases Nat.lt_or_ge t R.reverse.length with g | g
    · rw [List.getElem?_append_left g] at hx
      rw [if_neg (by simp at g; omega)]; exact h.v t x hx
    · rw [List.getElem?_append_right g] at hx
      have e : t - R.reverse.length = 0 := by have := (List.getElem?_eq_some_iff.1 hx).1; simp at this ⊢; omega
      rw [e] at hx
      simp at hx; subst hx
      rw [if_pos (by simp at g e; omega)]
  · rw [List.length_cons] at h1
    rw [hat, if_neg (by omega)]; exact h.gone t (by omega) h2
  · rcases List.mem_cons.1 hx with rfl | hx
    · exact h0
    · exact h.live x hx
/-- A triangle more: what was joined stays joined. -/
theorem BuiltS.joined {S : List TriM} {R : List (Int × Int × Int)} (h : BuiltS S R) (a b c : Int) {fa : Int → Int → Bool} {op : List ((Int × Int) × Nat × Nat)} (hJ : Joined fa (hRev R) S op) : Joined fa (hRev R) (makeM S a b c) op := by
  refine hJ.other (by rw [h.make_len, h.len]; omega) fun t i e he => ?_
  obtain ⟨u, hu, -⟩ := hRev_mem.1 he
  have := (List.getElem?_eq_some_iff.1 hu).1
  simp only [List.length_reverse] at this
  rw [h.make_at, if_neg (by omega)]
/-- Nothing of it yet. -/
theorem BuiltS.fresh {S : List TriM} {R : List (Int × Int × Int)} (_ : BuiltS S R) : ∀ i e, (R.length, i, e) ∉ hRev R := fun i e he => by
  obtain ⟨u, hu, -⟩ := hRev_mem.1 he
  have := (List.getElem?_eq_some_iff.1 hu).1
  simp at this
theorem BuiltS.lives {S : List TriM} {R : List (Int × Int × Int)} (h : BuiltS S R) : ∀ t i e, (t, i, e) ∈ hRev R → ∃ x y z, rdV S t = some (x, y, z) ∧ 0 ≤ x := fun t i e he => by
  obtain ⟨⟨x, y, z⟩, hu, -⟩ := hRev_mem.1 he
  exact ⟨x, y, z, h.v t _ hu, h.live _ (List.mem_reverse.1 (List.mem_of_getElem? hu))⟩
theorem builtS_nil : BuiltS [goneTri, goneTri, goneTri, goneTri] [] :=
  ⟨rfl, fun t x hx => by simp at hx, fun t _ h2 => by
    obtain rfl | rfl | rfl | rfl : t = 0 ∨ t = 1 ∨ t = 2 ∨ t = 3 := by omega
    all_goals rfl, fun x hx => by simp at hx⟩
end Go.MagM
/- The statements' Build. -/
namespace Go.MagM
open Go.RowKit
/-- Triples of ints in a row. -/
def TrIn (w : World) (b : Nat) (V : List (Int × Int × Int)) : Prop :=
  ∀ k x y z, V[k]? = some (x, y, z) → w.cell? ⟨b, k * 3, none⟩ = some (.int .i64 x) ∧ w.cell? ⟨b, k * 3 + 1, none⟩ = some (.int .i64 y) ∧ w.cell? ⟨b, k * 3 + 2, none⟩ = some (.int .i64 z)
theorem TrIn.below {w w' : World} {b : Nat} {V : List (Int × Int × Int)} (h : TrIn w b V) (hb : Below w.heap.size w w') : TrIn w' b V := fun k x y z hk => by
  obtain ⟨h1, h2, h3⟩ := h k x y z hk
  exact ⟨(hb.cell (World.block_lt_of_cell? w _ h1)).trans h1, (hb.cell (World.block_lt_of_cell? w _ h2)).trans h2, (hb.cell (World.block_lt_of_cell? w _ h3)).trans h3⟩
/-- Three cells at o. -/
structure Ats3 (w : World) (b o : Nat) (v0 v1 v2 : Value) : Prop where
  c0 : w.cell? ⟨b, o, none⟩ = some v0
  c1 : w.cell? ⟨b, o + 1, none⟩ = some v1
  c2 : w.cell? ⟨b, o + 2, none⟩ = some v2
theorem Ats3.below {w w' : World} {b o : Nat} {v0 v1 v2 : Value} (h : Ats3 w b o v0 v1 v2) (hb : Below w.heap.size w w') : Ats3 w' b o v0 v1 v2 := by
  have hlt := World.block_lt_of_cell? w _ h.c0
  exact ⟨(hb.cell (p := ⟨b, o, none⟩) hlt).trans h.c0, (hb.cell (p := ⟨b, o + 1, none⟩) hlt).trans h.c1, (hb.cell (p := ⟨b, o + 2, none⟩) hlt).trans h.c2⟩
theorem Ats3.drew {w : World} {b o : Nat} {v0 v1 v2 : Value} (h : Ats3 w b o v0 v1 v2) : Ats3 w.drew b o v0 v1 v2 := ⟨h.c0, h.c1, h.c2⟩
/-- Points that lie as cells. -/
structure PtsC (w : World) (sb : Nat) (P : List (Int × Int)) : Prop where
  c : ∀ j u, (ptsCells P)[j]? = some u → w.cell? ⟨sb, 0 + j, none⟩ = some u
theorem PtsC.below {w w' : World} {sb : Nat} {P : List (Int × Int)} (h : PtsC w sb P) (hb : Below w.heap.size w w') : PtsC w' sb P := ⟨fun j u hj => (hb.cell (World.block_lt_of_cell? w _ (h.c j u hj))).trans (h.c j u hj)⟩
theorem PtsC.drew {w : World} {sb : Nat} {P : List (Int × Int)} (h : PtsC w sb P) : PtsC w.drew sb P := ⟨h.c⟩
theorem owns_low {w : World} {base base' : Nat} {e : TypeId} {size : Nat} {v : Value} {n : Nat} {xs : List Value} (h : w.ownsRow base e size v n xs) (hb : base' ≤ base) : w.ownsRow base' e size v n xs := by
  refine ⟨h.1, ?_⟩
  rcases h.2 with hn | ⟨g, cap, cur, h1, h2, h3⟩
  · exact .inl hn
  · exact .inr ⟨g, cap, cur, h1, Nat.le_trans hb h2, h3⟩
/-- A mesh and its points lie at B or above. -/
structure MeshUp (p e : TypeId) (w : World) (B mb pb pc : Nat) (tv : Value) (P : List (Int × Int)) (S : List TriM) : Prop where
  mesh : MeshO p e w B mb pb pc tv P S
  pts : B ≤ pb
theorem MeshUp.below {p e : TypeId} {w w' : World} {B mb pb pc : Nat} {tv : Value} {P : List (Int × Int)} {S : List TriM} (h : MeshUp p e w B mb pb pc tv P S) (hb : Below w.heap.size w w') : MeshUp p e w' B mb pb pc tv P S := ⟨h.mesh.below hb, h.pts⟩
theorem MeshUp.drew {p e : TypeId} {w : World} {B mb pb pc : Nat} {tv : Value} {P : List (Int × Int)} {S : List TriM} (h : MeshUp p e w B mb pb pc tv P S) : MeshUp p e w.drew B mb pb pc tv P S := ⟨h.mesh.drew, h.pts⟩
theorem Ats3.farFrom {b o : Nat} {v0 v1 v2 : Value} {g' : Nat} (hne : b ≠ g') : ∀ (xs : List Value) (i : Nat) {w : World}, Ats3 w b o v0 v1 v2 → Ats3 (setAll w g' i xs) b o v0 v1 v2
  | [], _, _, h => h
  | x :: xs, i, w, h => by
    have e : ∀ j, (w.setCell ⟨g', i, none⟩ x).cell? ⟨b, j, none⟩ = w.cell? ⟨b, j, none⟩ := fun j => World.cell?_setCell_other _ _ _ _ (by intro k; injection k with h1; first | exact hne h1 | exact hne h1.symm)
    exact Ats3.farFrom hne xs (i + 1) ⟨(e _).trans h.c0, (e _).trans h.c1, (e _).trans h.c2⟩
theorem Ats3.farAll {w : World} {b o : Nat} {v0 v1 v2 : Value} (h : Ats3 w b o v0 v1 v2) {g' : Nat} (hne : b ≠ g') (xs : List Value) : Ats3 (setAll w g' 0 xs) b o v0 v1 v2 := Ats3.farFrom hne xs 0 h
theorem PtsC.farAll {w : World} {sb : Nat} {P : List (Int × Int)} (h : PtsC w sb P) {g' : Nat} (hne : sb ≠ g') (xs : List Value) : PtsC (setAll w g' 0 xs) sb P :=
  ⟨fun j u hj => (World.cell?_of_block (a := ⟨sb, 0 + j, none⟩) ((turned_setAll (w := w) xs 0 (Turned.refl w g')).block sb hne)).trans (h.c j u hj)⟩
def isRef : Value → Bool
  | .pointer _ => true
  | .map _ => true
  | _ => false
/-- A pointer, a map: such a value lies in no mesh. -/
theorem MeshO.apart_of {p e : TypeId} {w : World} {lo mb pb pc : Nat} {tv : Value} {P : List (Int × Int)} {S : List TriM} (h : MeshO p e w lo mb pb pc tv P S) (hP : 0 < P.length) (hS : 0 < S.length) {g : Nat} {q : Value} (hg : w.cell? ⟨g, 0, none⟩ = some q) (hq : isRef q = true) : g ≠ mb ∧ g ≠ pb ∧ tv.ownBlock ≠ some g := by
  refine ⟨?_, ?_, ?_⟩
  · rintro rfl
    have := h.box.c0; rw [hg] at this; cases this; exact absurd hq (by simp [isRef])
  · rintro rfl
    obtain ⟨x, y, hx⟩ : ∃ x y, P[0]? = some (x, y) := ⟨P[0].1, P[0].2, List.getElem?_eq_getElem hP⟩
    have := (h.pts 0 x y hx).1
    simp only [Nat.zero_mul] at this
    rw [hg] at this; cases this; exact absurd hq (by simp [isRef])
  · intro e1
    obtain ⟨t, ht⟩ : ∃ t, S[0]? = some t := ⟨_, List.getElem?_eq_getElem hS⟩
    obtain ⟨tb, c, rfl⟩ := h.slot ht
    simp only [Value.ownBlock, Option.some.injEq] at e1
    subst e1
    have := (owns_box h.row).c 0 (.int .i64 t.v0) (by have := triCells_get S 0 0 t ht (by omega); rw [show (0 : Nat) * 9 + 0 = 0 from rfl] at this; rw [this]; rfl)
    rw [hg] at this; cases this; exact absurd hq (by simp [isRef])
theorem MeshUp.setAll {p e : TypeId} {w : World} {B mb pb pc : Nat} {tv : Value} {P : List (Int × Int)} {S : List TriM} (h : MeshUp p e w B mb pb pc tv P S) {g : Nat} {q : Option Addr} {vs : List Value} (hb : Box w g (.pointer q :: vs)) (hne : 0 < P.length ∧ 0 < S.length) (xs : List Value) (_ : (Value.pointer q :: vs).length = xs.length) : MeshUp p e (Go.MagM.setAll w g 0 xs) B mb pb pc tv P S := by
  obtain ⟨h1, h2, h3⟩ := h.mesh.apart_of hne.1 hne.2 hb.c0 rfl
  exact ⟨h.mesh.turned (turned_setAll xs 0 (Turned.refl w g)) (fun e => h1 e.symm) (fun e => h2 e.symm) h3, h.pts⟩
/-- New's triangle and its ghosts, so many of them dropped. -/
def dropS (a b c : Int) : Nat → List TriM
  | 0 => newM a b c
  | i + 1 => (dropS a b c i).set i goneTri
theorem dropS_len (a b c : Int) : ∀ i, (dropS a b c i).length = 4
  | 0 => rfl
  | i + 1 => by rw [dropS, List.length_set, dropS_len a b c i]
theorem dropS_at (a b c : Nat) {i : Nat} (hi : i < 4) : ∃ T, (dropS (a : Int) (b : Int) (c : Int) i)[i]? = some T ∧ goneB T = false := by
  obtain rfl | rfl | rfl | rfl : i = 0 ∨ i = 1 ∨ i = 2 ∨ i = 3 := by omega
  all_goals exact ⟨_, rfl, by unfold goneB; exact decide_eq_false (by simp only []; omega)⟩
theorem dropS_all (a b c : Int) : dropS a b c 4 = [goneTri, goneTri, goneTri, goneTri] := rfl
theorem MeshUp.mut {p e : TypeId} {w w' : World} {B mb pb pc : Nat} {tv tv' : Value} {P : List (Int × Int)} {S : List TriM} (h : MeshUp p e w B mb pb pc tv P S) (hm : Mut w w' mb tv tv') (hB : B ≤ w.heap.size) : Below B w w' := hm.below hB h.mesh.low.1 (fun k hk => (h.mesh.row.lt k hk).1)
theorem Box.mut {w w' : World} {mb : Nat} {tv tv' : Value} {g : Nat} {vs : List Value} (h : Box w g vs) (hm : Mut w w' mb tv tv') (hl : g < w.heap.size) (h1 : g ≠ mb) (h2 : tv.ownBlock ≠ some g) : Box w' g vs := h.same (hm.keep g hl h1 h2).1
/-- What Build leaves. -/
def BuildEnd (p e : TypeId) (F : Int → Int → Bool) (B : Nat) (P : List (Int × Int)) (T : List (Nat × Nat × Nat)) (mb : Nat) (w' : World) : Prop :=
  ∃ (pb pc : Nat) (tv : Value) (S : List TriM) (Bd : List (Nat × Nat)), MeshO p e w' B mb pb pc tv P S ∧ B ≤ pb ∧ Bd.Perm (borderT T) ∧ BuiltS S ((Bd.map ghostV).reverse ++ (T.map realV).reverse) ∧ Joined (faF F) (hRev ((Bd.map ghostV).reverse ++ (T.map realV).reverse)) S []
end Go.MagM
namespace Go.Proofs.Ytecnnpkpgbbfkaa
open Go.RowKit Go.MagM
/-- New, from a block on. -/
theorem New_up (B sb n sc : Nat) (P : List (Int × Int)) (w : World) (hB : B ≤ w.heap.size) (hn : P.length = n) (h0 : 0 < n) (hn9 : n ≤ 1000000) (hP : InPs P) (hc : PtsC w sb P) (a b c : Nat) (hz : turnM P (a : Int) (b : Int) (c : Int) = 1) :
    Calls Try.prog 16 #[.slice (some ⟨sb, 0, none⟩) n sc, .int .i64 (a : Int), .int .i64 (b : Int), .int .i64 (c : Int)] w fun e w' => ∃ mb pb pc tv, e = .returned (.tuple #[.pointer (some ⟨mb, 0, none⟩), .bool true]) ∧ MeshUp 62 49 w' B mb pb pc tv P (newM (a : Int) (b : Int) (c : Int)) ∧ Below w.heap.size w w' := by
  refine (New_yes (some ⟨sb, 0, none⟩) sb n sc P w hn h0 hn9 hP rfl hc.c a b c hz).mono ?_
  rintro e w' ⟨mb, pb, pc, tv, rfl, hm, hpb, hb⟩
  exact ⟨mb, pb, pc, tv, rfl, ⟨⟨hm.box, owns_low hm.prow hB, owns_low hm.row hB, ⟨Nat.le_trans hB hm.low.1, hm.low.2⟩, hm.apart, hm.short⟩, Nat.le_trans hB hpb⟩, hb⟩
end Go.Proofs.Ytecnnpkpgbbfkaa
/- What the statements' Build keeps while it joins one triangle behind the other. -/
namespace Go.MagM
open Go.RowKit
theorem distinct_list {W : List (Int × Int × Int)} (hn : (W.flatMap edgesV).Nodup) (ha : ∀ e, e ∈ W.flatMap edgesV → e.1 ≠ e.2) : Distinct (hRev W.reverse) := by
  have e1 : ((W.zipIdx.map fun p => (p.2, p.1)).flatMap fun p : Nat × (Int × Int × Int) => edgesV p.2) = W.flatMap edgesV := by
    rw [List.flatMap_map]
    show (W.zipIdx.flatMap fun p => edgesV p.1) = _
    rw [← List.flatMap_map (f := Prod.fst) (g := edgesV), List.zipIdx_map_fst]
  refine (distinct_of (L := W.zipIdx.map fun p => (p.2, p.1)) ?_ (by rw [e1]; exact hn) (by rw [e1]; exact ha)).sub fun x hx => ?_
  · rw [List.map_map]
    show (W.zipIdx.map Prod.snd).Nodup
    rw [List.zipIdx_map_snd]; exact List.nodup_range'
  · obtain ⟨v, h1, h2⟩ := hRev_mem.1 hx
    rw [List.reverse_reverse] at h1
    unfold halfEs
    rw [List.mem_flatMap]
    refine ⟨(x.1, v), List.mem_map.2 ⟨(v, x.1), ?_, rfl⟩, h2⟩
    rw [List.mem_zipIdx_iff_getElem?]; exact h1
theorem distinct_take {W : List (Int × Int × Int)} (h : Distinct (hRev W.reverse)) (k : Nat) : Distinct (hRev (W.take k).reverse) := by
  refine h.sub fun x hx => ?_
  obtain ⟨v, h1, h2⟩ := hRev_mem.1 hx
  rw [List.reverse_reverse] at h1
  refine hRev_mem.2 ⟨v, ?_, h2⟩
  rw [List.reverse_reverse]
  rw [List.getElem?_take] at h1
  split at h1
  · exact h1
  · cases h1
/-- A map lies in no mesh. -/
theorem MeshO.apart_map {P0 : Program} {k p e : TypeId} {w : World} {lo mb pb pc : Nat} {tv : Value} {P : List (Int × Int)} {S : List TriM} (h : MeshO p e w lo mb pb pc tv P S) (hP : 0 < P.length) (hS : 0 < S.length) {ob : Nat} {m : List (Value × Value)} (hm : MapB P0 k w ob m) : ob ≠ mb ∧ ob ≠ pb ∧ tv.ownBlock ≠ some ob := by
  have hno : ∀ j, w.cell? ⟨ob, j, none⟩ = none := fun j => by
    obtain ⟨es, clock, h1, -⟩ := hm.at_
    simp [World.cell?, h1]
  refine ⟨?_, ?_, ?_⟩
  · rintro rfl
    have := h.box.c0; rw [hno] at this; cases this
  · rintro rfl
    obtain ⟨x, y, hx⟩ : ∃ x y, P[0]? = some (x, y) := ⟨P[0].1, P[0].2, List.getElem?_eq_getElem hP⟩
    have := (h.pts 0 x y hx).1
    rw [hno] at this; cases this
  · intro e1
    obtain ⟨t, ht⟩ : ∃ t, S[0]? = some t := ⟨_, List.getElem?_eq_getElem hS⟩
    obtain ⟨tb, c, rfl⟩ := h.slot ht
    simp only [Value.ownBlock, Option.some.injEq] at e1
    subst e1
    have := (owns_box h.row).c 0 (.int .i64 t.v0) (by have := triCells_get S 0 0 t ht (by omega); rw [show (0 : Nat) * 9 + 0 = 0 from rfl] at this; rw [this]; rfl)
    rw [hno] at this; cases this
theorem MapB.ne_box {P0 : Program} {k : TypeId} {w : World} {ob g : Nat} {m : List (Value × Value)} {v : Value} {vs : List Value} (hm : MapB P0 k w ob m) (hb : Box w g (v :: vs)) : g ≠ ob := by
  rintro rfl
  obtain ⟨es, clock, h1, -⟩ := hm.at_
  have := hb.c0
  simp [World.cell?, h1] at this
/-- Build's state: so many triangles are made and joined. -/
structure BI (P0 : Program) (p e k : TypeId) (fa : Int → Int → Bool) (w : World) (B mb pb pc ob Bo Bm Bf fb : Nat) (P : List (Int × Int)) (R : List (Int × Int × Int)) (tv : Value) (S : List TriM) (op : List ((Int × Int) × Nat × Nat)) : Prop where
  up : MeshUp p e w B mb pb pc tv P S
  map : MapB P0 k w ob (op.map encO)
  built : BuiltS S R
  joined : Joined fa (hRev R) S op
  bo : Box w Bo [.map (some ob)]
  bm : Box w Bm [.pointer (some ⟨mb, 0, none⟩)]
  bf : Box w Bf [.map (some fb)]
  big : B ≤ ob
section
variable {P0 : Program} {p e k : TypeId} {fa : Int → Int → Bool} {w : World} {B mb pb pc ob Bo Bm Bf fb : Nat} {P : List (Int × Int)} {R : List (Int × Int × Int)} {tv : Value} {S : List TriM} {op : List ((Int × Int) × Nat × Nat)}
theorem BI.pos (h : BI P0 p e k fa w B mb pb pc ob Bo Bm Bf fb P R tv S op) : 0 < S.length := by have := h.built.len; omega
theorem BI.below {w' : World} (h : BI P0 p e k fa w B mb pb pc ob Bo Bm Bf fb P R tv S op) (hb : Below w.heap.size w w') : BI P0 p e k fa w' B mb pb pc ob Bo Bm Bf fb P R tv S op :=
  ⟨h.up.below hb, h.map.below hb, h.built, h.joined, h.bo.below hb, h.bm.below hb, h.bf.below hb, h.big⟩
theorem BI.drew (h : BI P0 p e k fa w B mb pb pc ob Bo Bm Bf fb P R tv S op) : BI P0 p e k fa w.drew B mb pb pc ob Bo Bm Bf fb P R tv S op :=
  ⟨h.up.drew, h.map.drew, h.built, h.joined, h.bo.drew, h.bm.drew, h.bf.drew, h.big⟩
/-- A triangle more is made: what join asks for. -/
theorem BI.made (h : BI P0 p e k fa w B mb pb pc ob Bo Bm Bf fb P R tv S op) (hP : 0 < P.length) {w5 : World} {tv1 : Value} {x y z : Int} (hx : 0 ≤ x) (hm : MeshO p e w5 B mb pb pc tv1 P (makeM S x y z)) (mu : Mut w w5 mb tv tv1) :
    MapB P0 k w5 ob (op.map encO) ∧ Box w5 Bo [.map (some ob)] ∧ Box w5 Bm [.pointer (some ⟨mb, 0, none⟩)] ∧ Box w5 Bf [.map (some fb)] ∧
    (Bo ≠ mb ∧ tv1.ownBlock ≠ some Bo ∧ Bo ≠ ob) ∧ (Bm ≠ mb ∧ tv1.ownBlock ≠ some Bm ∧ Bm ≠ ob) ∧ (Bf ≠ mb ∧ tv1.ownBlock ≠ some Bf ∧ Bf ≠ ob) ∧ (ob ≠ mb ∧ ob ≠ pb ∧ tv1.ownBlock ≠ some ob) ∧
    BuiltS (makeM S x y z) ((x, y, z) :: R) ∧ Joined fa (hRev R) (makeM S x y z) op := by
  have hS := h.pos
  have hS1 : 0 < (makeM S x y z).length := by rw [h.built.make_len]; omega
  obtain ⟨o1, o2, o3⟩ := h.up.mesh.apart_map hP hS h.map
  obtain ⟨a1, a2, a3⟩ := h.up.mesh.apart_of hP hS h.bo.c0 rfl
  obtain ⟨b1, b2, b3⟩ := h.up.mesh.apart_of hP hS h.bm.c0 rfl
  obtain ⟨c1, c2, c3⟩ := h.up.mesh.apart_of hP hS h.bf.c0 rfl
  have hm5 := h.map.block (mu.keep ob h.map.lt o1 o3).1
  have xo := Box.mut h.bo mu h.bo.lt a1 a3
  have xm := Box.mut h.bm mu h.bm.lt b1 b3
  have xf := Box.mut h.bf mu h.bf.lt c1 c3
  obtain ⟨a4, a5, a6⟩ := hm.apart_of hP hS1 xo.c0 rfl
  obtain ⟨b4, b5, b6⟩ := hm.apart_of hP hS1 xm.c0 rfl
  obtain ⟨c4, c5, c6⟩ := hm.apart_of hP hS1 xf.c0 rfl
  exact ⟨hm5, xo, xm, xf, ⟨a4, a6, hm5.ne_box xo⟩, ⟨b4, b6, hm5.ne_box xm⟩, ⟨c4, c6, hm5.ne_box xf⟩, hm.apart_map hP hS1 hm5, h.built.make x y z hx, h.built.joined x y z h.joined⟩
/-- .. and joined. -/
theorem BI.next {F : Int → Int → Bool} (h : BI P0 p e k (faF F) w B mb pb pc ob Bo Bm Bf fb P R tv S op) (hP : 0 < P.length) {w5 w6 : World} {tv1 : Value} {x y z : Int} (hx : 0 ≤ x) (hm : MeshO p e w5 B mb pb pc tv1 P (makeM S x y z)) (mu : Mut w w5 mb tv tv1)
    (hj : JoinEnd p e k P0 F w5 B mb pb pc tv1 ob P (makeM S x y z) (halfI (hRev R) R.length x y z 3) w6) (hB : B ≤ w.heap.size) :
    (∃ S' op', BI P0 p e k (faF F) w6 B mb pb pc ob Bo Bm Bf fb P ((x, y, z) :: R) tv1 S' op') ∧ Below B w w6 := by
  obtain ⟨-, xo, xm, xf, so, sm, sf, sob, hb, -⟩ := h.made hP hx hm mu
  obtain ⟨S', op', m6, map6, j6, l6, v6, k6⟩ := hj
  have hlow := mu.size
  have keep : ∀ {g : Nat} {vs : List Value}, Box w5 g vs → g < w5.heap.size → (g ≠ mb ∧ tv1.ownBlock ≠ some g ∧ g ≠ ob) → Box w6 g vs := fun hg hl hs => hg.same (k6.keep _ hl hs.1 hs.2.1 hs.2.2)
  refine ⟨⟨S', op', ⟨m6, h.up.pts⟩, map6, hb.same l6 v6, j6, keep xo xo.lt so, keep xm xm.lt sm, keep xf xf.lt sf, h.big⟩, ?_⟩
  have b1 : Below B w w5 := h.up.mut mu hB
  exact b1.trans (k6.below (by omega) hm.low.1 h.big (fun g hg => (hm.row.lt g hg).1))
end
end Go.MagM
/- What waits when all triangles have come: the border. Pure. -/
namespace Go.MagM
open Go.RowKit
def unE (e : Int × Int) : Nat × Nat := (e.1.toNat, e.2.toNat)
theorem edge_hRev {W : List (Int × Int × Int)} {e : Int × Int} : (∃ t i, (t, i, e) ∈ hRev W.reverse) ↔ e ∈ W.flatMap edgesV := by
  constructor
  · rintro ⟨t, i, h⟩
    obtain ⟨v, h1, h2⟩ := hRev_mem.1 h
    rw [List.reverse_reverse] at h1
    refine List.mem_flatMap.2 ⟨v, List.mem_of_getElem? h1, ?_⟩
    simp only [halfV, List.mem_cons, List.not_mem_nil, or_false, Prod.mk.injEq] at h2
    rcases h2 with ⟨-, -, rfl⟩ | ⟨-, -, rfl⟩ | ⟨-, -, rfl⟩ <;> simp [edgesV]
  · intro h
    obtain ⟨v, h1, h2⟩ := List.mem_flatMap.1 h
    obtain ⟨t, ht⟩ := List.mem_iff_getElem?.1 h1
    simp only [edgesV, List.mem_cons, List.not_mem_nil, or_false] at h2
    have mk : ∀ i, (t, i, e) ∈ halfV t v → ∃ t i, (t, i, e) ∈ hRev W.reverse := fun i hi => ⟨t, i, hRev_mem.2 ⟨v, by rw [List.reverse_reverse]; exact ht, hi⟩⟩
    rcases h2 with rfl | rfl | rfl
    · exact mk 0 (by simp [halfV])
    · exact mk 1 (by simp [halfV])
    · exact mk 2 (by simp [halfV])
theorem open_mem {fa : Int → Int → Bool} {T : List (Nat × Nat × Nat)} {S : List TriM} {op : List ((Int × Int) × Nat × Nat)} (hJ : Joined fa (hRev (T.map realV).reverse) S op) {e : Int × Int} : e ∈ op.map (·.1) ↔ ∃ x, x ∈ borderT T ∧ e = castE x := by
  have hE : ∀ e : Int × Int, (∃ t i, (t, i, e) ∈ hRev (T.map realV).reverse) ↔ ∃ x, x ∈ edgesT T ∧ castE x = e := fun e => by
    rw [edge_hRev, real_edges, List.mem_map]
  constructor
  · intro h
    obtain ⟨⟨⟨a, b⟩, t, i⟩, hx, rfl⟩ := List.mem_map.1 h
    obtain ⟨h1, h2⟩ := (hJ.wait a b t i).1 hx
    obtain ⟨x, hx1, hx2⟩ := (hE (a, b)).1 ⟨t, i, h1⟩
    refine ⟨x, mem_border.2 ⟨hx1, fun hr => ?_⟩, hx2.symm⟩
    obtain ⟨u, j, hu⟩ := (hE (castE (x.2, x.1))).2 ⟨_, hr, rfl⟩
    have hx2' : (x.1 : Int) = a ∧ (x.2 : Int) = b := by simpa [castE] using hx2
    have : castE (x.2, x.1) = (b, a) := by simp only [castE]; rw [hx2'.1, hx2'.2]
    rw [this] at hu
    exact h2 u j hu
  · rintro ⟨x, hx, rfl⟩
    obtain ⟨h1, h2⟩ := mem_border.1 hx
    obtain ⟨t, i, ht⟩ := (hE (castE x)).2 ⟨_, h1, rfl⟩
    refine List.mem_map.2 ⟨(castE x, t, i), (hJ.wait _ _ t i).2 ⟨ht, fun u j hu => h2 ?_⟩, rfl⟩
    obtain ⟨y, hy, e⟩ := (hE (((x.2 : Int)), ((x.1 : Int)))).1 ⟨u, j, hu⟩
    have : y = (x.2, x.1) := castE_inj (e.trans rfl)
    rw [← this]; exact hy
theorem nodup_of_map {α β : Type} {f : α → β} {l : List α} (h : (l.map f).Nodup) : l.Nodup := List.Pairwise.of_map f (fun _ _ hne e => hne (e ▸ rfl)) h
theorem keys_nodup {op : List ((Int × Int) × Nat × Nat)} (h : ((op.map encO).map (·.1)).Nodup) : (op.map (·.1)).Nodup := by
  have e : (op.map encO).map (·.1) = (op.map (·.1)).map (fun e => key2 e.1 e.2) := by rw [List.map_map, List.map_map]; rfl
  rw [e] at h; exact nodup_of_map h
theorem border_nodup {T : List (Nat × Nat × Nat)} (g : Good T) : (borderT T).Nodup := nodup_of_map g.out
/-- The keys that wait are the border's edges, each once. -/
theorem open_perm {fa : Int → Int → Bool} {T : List (Nat × Nat × Nat)} (g : Good T) {S : List TriM} {op : List ((Int × Int) × Nat × Nat)} (hJ : Joined fa (hRev (T.map realV).reverse) S op) (hn : (op.map (·.1)).Nodup) : (op.map (·.1)).Perm ((borderT T).map castE) := by
  refine (List.perm_ext_iff_of_nodup hn ?_).2 fun e => ?_
  · exact List.Pairwise.map castE (fun a b h e => h (castE_inj e)) (border_nodup g)
  · rw [open_mem hJ, List.mem_map]
    exact ⟨fun ⟨x, h1, h2⟩ => ⟨x, h1, h2.symm⟩, fun ⟨x, h1, h2⟩ => ⟨x, h1, h2.symm⟩⟩
theorem perm_cast {A B : List (Nat × Nat)} (h : (A.map castE).Perm (B.map castE)) : A.Perm B := by
  have := h.map unE
  rw [List.map_map, List.map_map] at this
  have e : ∀ L : List (Nat × Nat), L.map (unE ∘ castE) = L := fun L => by
    conv => rhs; rw [← List.map_id L]
    rfl
  rwa [e, e] at this
/-- Edges in a row, two cells each. -/
def edgCells : List (Nat × Nat) → List Value
  | [] => []
  | e :: t => .int .i64 (e.1 : Int) :: .int .i64 (e.2 : Int) :: edgCells t
theorem edgCells_app : ∀ l k, edgCells (l ++ k) = edgCells l ++ edgCells k
  | [], _ => rfl
  | e :: t, k => by simp [edgCells, edgCells_app t k]
theorem edgCells_get : ∀ (l : List (Nat × Nat)) (i : Nat) (e : Nat × Nat), l[i]? = some e → (edgCells l)[i * 2]? = some (.int .i64 (e.1 : Int)) ∧ (edgCells l)[i * 2 + 1]? = some (.int .i64 (e.2 : Int))
  | [], _, _, h => by simp at h
  | x :: t, 0, e, h => by simp at h; subst h; exact ⟨rfl, rfl⟩
  | x :: t, i + 1, e, h => by
    have := edgCells_get t i e (by simpa using h)
    rw [show (i + 1) * 2 = i * 2 + 1 + 1 by omega]
    simpa [edgCells] using this
def lenV : Value → Nat
  | .slice _ n _ => n
  | _ => 0
theorem RowN.lenV {w : World} {base : Nat} {e : TypeId} {size n : Nat} {v : Value} {xs : List Value} (h : RowN w base e size v n xs) : lenV v = n := by
  rcases h.2 with ⟨rfl, rfl⟩ | ⟨g, cap, cur, rfl, _⟩ <;> rfl
theorem perm_eraseIdx {α : Type} : ∀ (l : List α) (i : Nat) (x : α), l[i]? = some x → l.Perm (x :: l.eraseIdx i)
  | [], _, _, h => by simp at h
  | y :: t, 0, x, h => by simp at h; subst h; exact List.Perm.refl _
  | y :: t, i + 1, x, h => by
    have := perm_eraseIdx t i x (by simpa using h)
    rw [List.eraseIdx_cons_succ]
    exact (this.cons y).trans (List.Perm.swap x y _)
/-- What has come of the open edges, and what is left. -/
structure LeftO (op : List ((Int × Int) × Nat × Nat)) (E : List (Nat × Nat)) (rest : List (Value × Value)) : Prop where
  at_ : ∃ rop : List ((Int × Int) × Nat × Nat), rest = rop.map encO ∧ (E.map castE ++ rop.map (·.1)).Perm (op.map (·.1)) ∧ ∀ x, x ∈ rop → x ∈ op
theorem LeftO.start (op : List ((Int × Int) × Nat × Nat)) : LeftO op [] (op.map encO) := ⟨op, rfl, List.Perm.refl _, fun _ h => h⟩
theorem LeftO.next {op : List ((Int × Int) × Nat × Nat)} {E : List (Nat × Nat)} {rest : List (Value × Value)} (h : LeftO op E rest) {T : List (Nat × Nat × Nat)} (hm : ∀ e, e ∈ op.map (·.1) → ∃ x, x ∈ borderT T ∧ e = castE x) {i : Nat} {x v : Value} (hx : rest[i]? = some (x, v)) :
    ∃ a b : Nat, (a, b) ∈ borderT T ∧ x = .agg #[.int .i64 (a : Int), .int .i64 (b : Int)] ∧ LeftO op (E ++ [(a, b)]) (rest.eraseIdx i) ∧ E.length < op.length := by
  obtain ⟨rop, rfl, hp, hs⟩ := h.at_
  rw [List.getElem?_map] at hx
  obtain ⟨y, hy, hy2⟩ : ∃ y, rop[i]? = some y ∧ encO y = (x, v) := by
    cases h : rop[i]? with
    | none => rw [h] at hx; cases hx
    | some y => rw [h] at hx; exact ⟨y, rfl, by simpa using hx⟩
  obtain ⟨⟨a, b⟩, hab, he⟩ := hm y.1 (List.mem_map.2 ⟨y, hs y (List.mem_of_getElem? hy), rfl⟩)
  obtain ⟨⟨p, q⟩, r⟩ := y
  simp only [castE, Prod.mk.injEq] at he
  obtain ⟨rfl, rfl⟩ := he
  have hi := (List.getElem?_eq_some_iff.1 hy).1
  have hperm : rop.Perm (((((a : Int), (b : Int)), r)) :: rop.eraseIdx i) := perm_eraseIdx rop i _ hy
  refine ⟨a, b, hab, ?_, ⟨rop.eraseIdx i, ?_, ?_, fun z hz => hs z ((List.eraseIdx_sublist _ _).subset hz)⟩, ?_⟩
  · have := congrArg Prod.fst hy2
    exact this.symm
  · rw [ChangeMaps.map_eraseIdx]
  · refine List.Perm.trans ?_ hp
    rw [List.map_append, List.append_assoc]
    refine List.Perm.append_left _ ?_
    have := (hperm.map (·.1)).symm
    simpa [castE] using this
  · have := hp.length_eq
    rw [List.length_append, List.length_map, List.length_map, List.length_map] at this
    omega
theorem LeftO.done {op : List ((Int × Int) × Nat × Nat)} {E : List (Nat × Nat)} (h : LeftO op E []) {T : List (Nat × Nat × Nat)} (hp : (op.map (·.1)).Perm ((borderT T).map castE)) : E.Perm (borderT T) := by
  obtain ⟨rop, h0, h1, -⟩ := h.at_
  have : rop = [] := by cases rop with
    | nil => rfl
    | cons a t => cases h0
  subst this
  refine perm_cast (List.Perm.trans ?_ hp)
  simpa using h1
/-- When the ghosts have come, too, nothing waits. -/
theorem open_none {fa : Int → Int → Bool} {T : List (Nat × Nat × Nat)} (g : Good T) {Bd : List (Nat × Nat)} (hp : Bd.Perm (borderT T)) {S : List TriM} {op : List ((Int × Int) × Nat × Nat)} (hJ : Joined fa (hRev ((Bd.map ghostV).reverse ++ (T.map realV).reverse)) S op) : op = [] := by
  rw [← List.reverse_append] at hJ
  refine hJ.closed fun t i a b h => ?_
  have := edge_hRev.1 ⟨t, i, h⟩
  exact edge_hRev.2 (all_closed g hp a b this)
theorem all_distinct' {T : List (Nat × Nat × Nat)} (g : Good T) {Bd : List (Nat × Nat)} (hp : Bd.Perm (borderT T)) : Distinct (hRev (T.map realV ++ Bd.map ghostV).reverse) :=
  distinct_list (all_nodup g hp) (all_apart g hp)
theorem take_both {T : List (Nat × Nat × Nat)} {E : List (Nat × Nat)} (k : Nat) : ((T.map realV ++ E.map ghostV).take (T.length + k)).reverse = ((E.take k).map ghostV).reverse ++ (T.map realV).reverse := by
  rw [List.take_append, List.take_of_length_le (by simp), List.reverse_append]
  simp [List.map_take]
theorem ghost_next {E : List (Nat × Nat)} {k : Nat} {e : Nat × Nat} (he : E[k]? = some e) (R : List (Int × Int × Int)) : ((E.take (k + 1)).map ghostV).reverse ++ R = ((e.2 : Int), (e.1 : Int), -1) :: (((E.take k).map ghostV).reverse ++ R) := by
  rw [List.take_add_one, he, List.map_append, List.reverse_append]; rfl
end Go.MagM
/- Closed surfaces of triangles: each edge once, across it the other half. What mesh's calls answer of them. Pure. -/
namespace Go.MagM
/-- The triangles V lie in the slots, one by one; all their edges are joined. -/
structure Surf (fa : Int → Int → Bool) (V : List (Int × Int × Int)) (S : List TriM) : Prop where
  len : S.length = V.length
  v : ∀ t : Nat, rdV S t = V[t]?
  live : ∀ x, x ∈ V → 0 ≤ x.1
  distinct : Distinct (hRev V.reverse)
  joined : Joined fa (hRev V.reverse) S []
section
variable {fa : Int → Int → Bool} {V : List (Int × Int × Int)} {S : List TriM}
theorem Surf.get (h : Surf fa V S) {t : Nat} {T : TriM} (hT : S[t]? = some T) : V[t]? = some (T.v0, T.v1, T.v2) := by
  rw [← h.v t]; unfold rdV; rw [hT]; rfl
theorem Surf.at_ (h : Surf fa V S) {t : Nat} {x : Int × Int × Int} (hx : V[t]? = some x) : ∃ T, S[t]? = some T ∧ T.v0 = x.1 ∧ T.v1 = x.2.1 ∧ T.v2 = x.2.2 := by
  have := h.v t
  rw [hx] at this
  obtain ⟨a, b, c⟩ := x
  unfold rdV at this
  cases hs : S[t]? with
  | none => rw [hs] at this; cases this
  | some T =>
    rw [hs] at this
    simp only [Option.map_some, Option.some.injEq, Prod.mk.injEq] at this
    exact ⟨T, rfl, this.1, this.2.1, this.2.2⟩
theorem Surf.alive (h : Surf fa V S) {t : Nat} {T : TriM} (hT : S[t]? = some T) : 0 ≤ T.v0 ∧ goneB T = false := by
  have h0 := h.live _ (List.mem_of_getElem? (h.get hT))
  simp only [] at h0
  exact ⟨h0, by unfold goneB; exact decide_eq_false (by omega)⟩
theorem Surf.half (h : Surf fa V S) {t i : Nat} {T : TriM} (hT : S[t]? = some T) (hi : i < 3) : (t, i, edgeV T i) ∈ hRev V.reverse := by
  refine hRev_mem.2 ⟨(T.v0, T.v1, T.v2), by rw [List.reverse_reverse]; exact h.get hT, ?_⟩
  obtain rfl | rfl | rfl : i = 0 ∨ i = 1 ∨ i = 2 := by omega
  all_goals simp [halfV, edgeV]
theorem Surf.of_half (h : Surf fa V S) {t i : Nat} {e : Int × Int} (hm : (t, i, e) ∈ hRev V.reverse) : ∃ T, S[t]? = some T ∧ i < 3 ∧ edgeV T i = e := by
  obtain ⟨v, h1, h2⟩ := hRev_mem.1 hm
  rw [List.reverse_reverse] at h1
  obtain ⟨T, hT, e0, e1, e2⟩ := h.at_ h1
  obtain ⟨x, y, z⟩ := v
  simp only [] at e0 e1 e2
  subst e0; subst e1; subst e2
  simp only [halfV, List.mem_cons, List.not_mem_nil, or_false, Prod.mk.injEq] at h2
  rcases h2 with ⟨-, rfl, rfl⟩ | ⟨-, rfl, rfl⟩ | ⟨-, rfl, rfl⟩
  · exact ⟨T, hT, by omega, rfl⟩
  · exact ⟨T, hT, by omega, rfl⟩
  · exact ⟨T, hT, by omega, rfl⟩
/-- No edge is there twice. -/
theorem Surf.once (h : Surf fa V S) {t u i j : Nat} {T U : TriM} (hT : S[t]? = some T) (hU : S[u]? = some U) (hi : i < 3) (hj : j < 3) (he : edgeV T i = edgeV U j) : t = u ∧ i = j := by
  have h1 := h.half hT hi
  have h2 := h.half hU hj
  rw [he] at h1
  exact h.distinct.edge _ _ _ _ _ h1 h2
theorem Surf.apart (h : Surf fa V S) {t i : Nat} {T : TriM} (hT : S[t]? = some T) (hi : i < 3) : (edgeV T i).1 ≠ (edgeV T i).2 :=
  h.distinct.apart t i _ _ (h.half hT hi)
theorem Surf.across (h : Surf fa V S) {t u i j : Nat} {T U : TriM} (hT : S[t]? = some T) (hU : S[u]? = some U) (hi : i < 3) (hj : j < 3) (he : edgeV U j = ((edgeV T i).2, (edgeV T i).1)) : T.n i = (u : Int) ∧ T.f i = fa (edgeV T i).1 (edgeV T i).2 := by
  have h2 := h.half hU hj
  rw [he] at h2
  have := h.joined.across t i _ _ u j (h.half hT hi) h2
  unfold rdN at this
  rw [hT] at this
  simp only [Option.map_some, Option.some.injEq, Prod.mk.injEq] at this
  exact this
/-- Each edge has its other half. -/
theorem Surf.other (h : Surf fa V S) {t i : Nat} {T : TriM} (hT : S[t]? = some T) (hi : i < 3) : ∃ (u j : Nat) (U : TriM), S[u]? = some U ∧ j < 3 ∧ edgeV U j = ((edgeV T i).2, (edgeV T i).1) ∧ T.n i = (u : Int) ∧ T.f i = fa (edgeV T i).1 (edgeV T i).2 ∧ U.n j = (t : Int) ∧ U.f j = fa (edgeV T i).2 (edgeV T i).1 := by
  have hm := h.half hT hi
  have hw := h.joined.wait (edgeV T i).1 (edgeV T i).2 t i
  obtain ⟨u, j, hu⟩ : ∃ u j, (u, j, ((edgeV T i).2, (edgeV T i).1)) ∈ hRev V.reverse := by
    refine Classical.byContradiction fun hno => ?_
    have hno' : ∀ u j, (u, j, ((edgeV T i).2, (edgeV T i).1)) ∉ hRev V.reverse := fun u j hu => hno ⟨u, j, hu⟩
    have := hw.2 ⟨hm, hno'⟩
    cases this
  obtain ⟨U, hU, hj, he⟩ := h.of_half hu
  have a1 := h.across hT hU hi hj he
  have a2 := h.across hU hT hj hi (by rw [he])
  rw [he] at a2
  exact ⟨u, j, U, hU, hj, he, a1.1, a1.2, a2.1, a2.2⟩
theorem edgeT_at {T : TriM} {i : Nat} (hi : i < 3) (h : ∀ j k : Nat, j < 3 → k < 3 → edgeV T j = edgeV T k → j = k) : edgeT T (edgeV T i).1 (edgeV T i).2 = (i : Int) :=
  edgeT_hit hi rfl fun j hj e => by have := h j i (by omega) hi e; omega
theorem Surf.edge_at (h : Surf fa V S) {t i : Nat} {T : TriM} (hT : S[t]? = some T) (hi : i < 3) : edgeT T (edgeV T i).1 (edgeV T i).2 = (i : Int) :=
  edgeT_at hi fun _ _ hj hk e => (h.once hT hT hj hk e).2
theorem Surf.linkI (h : Surf fa V S) (hfa : ∀ a b, fa a b = fa b a) {t i : Nat} {T : TriM} (hT : S[t]? = some T) (hi : i < 3) : linkI S t T i = true := by
  obtain ⟨u, j, U, hU, hj, he, h1, h2, h3, h4⟩ := h.other hT hi
  have hg := (h.alive hU).2
  have ha := h.edge_at hU hj
  rw [he] at ha
  simp only [] at ha
  unfold Go.MagM.linkI
  rw [h1, getT_nat, hU]
  simp only []
  rw [hg, ha]
  have e1 : ((j : Int) != -1) = true := by simp
  have e2 : ((j : Int)).toNat = j := rfl
  rw [e1, e2, h3, h4, h2, hfa]
  simp
theorem Surf.linked (h : Surf fa V S) (hfa : ∀ a b, fa a b = fa b a) {t : Nat} {T : TriM} (hT : S[t]? = some T) : linkedT S t T = true :=
  linkedT_yes fun _ hi => h.linkI hfa hT hi
/-- What Find answers. -/
theorem Surf.edgeM_yes (h : Surf fa V S) {t i : Nat} {T : TriM} (hT : S[t]? = some T) (hi : i < 3) : edgeM S (t : Int) (edgeV T i).1 (edgeV T i).2 = (i : Int) := by
  unfold edgeM
  rw [getT_nat, hT]
  simp only []
  rw [(h.alive hT).2, h.edge_at hT hi]; simp
theorem Surf.edgeM_cases (h : Surf fa V S) {t : Nat} (ht : t < S.length) (a b : Int) : edgeM S (t : Int) a b = -1 ∨ ∃ (i : Nat) (T : TriM), S[t]? = some T ∧ i < 3 ∧ edgeV T i = (a, b) ∧ edgeM S (t : Int) a b = (i : Int) := by
  obtain ⟨T, hT⟩ : ∃ T, S[t]? = some T := ⟨_, List.getElem?_eq_getElem ht⟩
  unfold edgeM
  rw [getT_nat, hT]
  simp only []
  rw [(h.alive hT).2]
  rcases edgeT_cases T a b with e | ⟨j, hj, e1, e2⟩
  · left; simpa using e
  · right; exact ⟨j, T, rfl, hj, e2, by simpa using e1⟩
theorem Surf.find (h : Surf fa V S) {t i : Nat} {T : TriM} (hT : S[t]? = some T) (hi : i < 3) {a b : Int} (he : edgeV T i = (a, b)) : findM S a b = some (t, (i : Int)) := by
  have ht := (List.getElem?_eq_some_iff.1 hT).1
  have e := h.edgeM_yes hT hi
  rw [he] at e
  simp only [] at e
  rw [findM_hit ht (by rw [e]; omega) (fun j hj => ?_), e]
  rcases h.edgeM_cases (t := j) (by omega) a b with e' | ⟨k, U, hU, hk, e1, -⟩
  · exact e'
  · have := (h.once hU hT hk hi (by rw [e1, he])).1; omega
end
/-- Triangles of a mesh, and ghosts behind its border. -/
def allV (T : List (Nat × Nat × Nat)) (Bd : List (Nat × Nat)) : List (Int × Int × Int) := T.map realV ++ Bd.map ghostV
/-- What the statements' Build leaves. -/
structure Built (fa : Int → Int → Bool) (T : List (Nat × Nat × Nat)) (Bd : List (Nat × Nat)) (S : List TriM) : Prop where
  good : Good T
  perm : Bd.Perm (borderT T)
  surf : Surf fa (allV T Bd) S
theorem all_distinct {T : List (Nat × Nat × Nat)} (g : Good T) {Bd : List (Nat × Nat)} (hp : Bd.Perm (borderT T)) : Distinct (hRev (allV T Bd).reverse) :=
  distinct_list (all_nodup g hp) (all_apart g hp)
theorem Built.of {fa : Int → Int → Bool} {T : List (Nat × Nat × Nat)} {Bd : List (Nat × Nat)} {S : List TriM} (g : Good T) (h4 : 4 ≤ T.length + (borderT T).length) (hp : Bd.Perm (borderT T))
    (hb : BuiltS S ((Bd.map ghostV).reverse ++ (T.map realV).reverse)) (hj : Joined fa (hRev ((Bd.map ghostV).reverse ++ (T.map realV).reverse)) S []) : Built fa T Bd S := by
  have hr : (Bd.map ghostV).reverse ++ (T.map realV).reverse = (allV T Bd).reverse := by unfold allV; rw [List.reverse_append]
  rw [hr] at hb hj
  have hl : S.length = (allV T Bd).length := by
    have := hb.len
    rw [List.length_reverse] at this
    rw [this]
    have : (allV T Bd).length = T.length + (borderT T).length := by unfold allV; simp [hp.length_eq]
    omega
  refine ⟨g, hp, ⟨hl, fun t => ?_, fun x hx => hb.live x (List.mem_reverse.2 hx), all_distinct g hp, hj⟩⟩
  cases hx : (allV T Bd)[t]? with
  | some x => exact hb.v t x (by rw [List.reverse_reverse]; exact hx)
  | none =>
    unfold rdV
    rw [List.getElem?_eq_none (by rw [hl]; exact List.getElem?_eq_none_iff.1 hx)]; rfl
section
variable {fa : Int → Int → Bool} {T : List (Nat × Nat × Nat)} {Bd : List (Nat × Nat)} {S : List TriM}
theorem Built.len (h : Built fa T Bd S) : S.length = T.length + Bd.length := by
  rw [h.surf.len]; unfold allV; simp
theorem Built.real (h : Built fa T Bd S) {t : Nat} {x : Nat × Nat × Nat} (hx : T[t]? = some x) : ∃ X, S[t]? = some X ∧ X.v0 = (x.1 : Int) ∧ X.v1 = (x.2.1 : Int) ∧ X.v2 = (x.2.2 : Int) := by
  refine h.surf.at_ (x := realV x) ?_
  unfold allV
  have hl := (List.getElem?_eq_some_iff.1 hx).1
  rw [List.getElem?_append_left (by simpa using hl), List.getElem?_map, hx]; rfl
theorem Built.ghost (h : Built fa T Bd S) {k : Nat} {e : Nat × Nat} (he : Bd[k]? = some e) : ∃ X, S[T.length + k]? = some X ∧ X.v0 = (e.2 : Int) ∧ X.v1 = (e.1 : Int) ∧ X.v2 = -1 := by
  refine h.surf.at_ (x := ghostV e) ?_
  unfold allV
  rw [List.getElem?_append_right (by simp), List.length_map, Nat.add_sub_cancel_left, List.getElem?_map, he]; rfl
/-- Each slot has a real triangle, or a ghost. -/
theorem Built.cases (h : Built fa T Bd S) {t : Nat} {X : TriM} (hX : S[t]? = some X) : (∃ x, T[t]? = some x ∧ X.v0 = (x.1 : Int) ∧ X.v1 = (x.2.1 : Int) ∧ X.v2 = (x.2.2 : Int)) ∨ (∃ k e, t = T.length + k ∧ Bd[k]? = some e ∧ X.v0 = (e.2 : Int) ∧ X.v1 = (e.1 : Int) ∧ X.v2 = -1) := by
  have ht := (List.getElem?_eq_some_iff.1 hX).1
  rw [h.len] at ht
  by_cases hlt : t < T.length
  · obtain ⟨x, hx⟩ : ∃ x, T[t]? = some x := ⟨_, List.getElem?_eq_getElem hlt⟩
    obtain ⟨Y, hY, h1⟩ := h.real hx
    rw [hX] at hY; cases hY
    exact .inl ⟨x, hx, h1⟩
  · obtain ⟨e, he⟩ : ∃ e, Bd[t - T.length]? = some e := ⟨_, List.getElem?_eq_getElem (by omega)⟩
    obtain ⟨Y, hY, h1⟩ := h.ghost he
    rw [show T.length + (t - T.length) = t by omega, hX] at hY; cases hY
    exact .inr ⟨t - T.length, e, by omega, he, h1⟩
theorem Built.real_iff (h : Built fa T Bd S) (t : Nat) : realM S (t : Int) = decide (t < T.length) := by
  unfold realM
  rw [getT_nat]
  by_cases ht : t < S.length
  · obtain ⟨X, hX⟩ : ∃ X, S[t]? = some X := ⟨_, List.getElem?_eq_getElem ht⟩
    rw [hX]
    simp only []
    unfold realT
    rcases h.cases hX with ⟨x, hx, e0, e1, e2⟩ | ⟨k, e, rfl, he, e0, e1, e2⟩
    · have := (List.getElem?_eq_some_iff.1 hx).1
      rw [decide_eq_true this, decide_eq_true (by omega)]
    · rw [decide_eq_false (by omega), decide_eq_false (by omega)]
  · rw [List.getElem?_eq_none (by omega)]
    have := h.len
    simp only []
    rw [decide_eq_false (by omega)]
end
end Go.MagM
/- What the statements' Build leaves is sound, in whatever order the ghosts come. Pure. -/
namespace Go.MagM
/-- The edge of the border ahead. -/
def prevB (B : List (Nat × Nat)) (e : Nat × Nat) : Nat × Nat := (B.find? fun p => p.2 == e.1).getD (0, 0)
/-- Round the border, to the right, till the first edge comes again. -/
def cycB (B : List (Nat × Nat)) (first : Nat × Nat) : Nat → Nat × Nat → List (Nat × Nat)
  | 0, _ => []
  | n + 1, e => e :: (if prevB B e = first then [] else cycB B first n (prevB B e))
/-- The border's points, to the left. -/
def rimB (B : List (Nat × Nat)) (n : Nat) (e : Nat × Nat) : List Nat := ((cycB B e n e).map (·.2)).reverse
section
variable {fa : Int → Int → Bool} {T : List (Nat × Nat × Nat)} {Bd : List (Nat × Nat)} {S : List TriM}
theorem Built.mem (h : Built fa T Bd S) {e : Nat × Nat} : e ∈ Bd ↔ e ∈ borderT T := h.perm.mem_iff
theorem Built.nodup (h : Built fa T Bd S) : Bd.Nodup := by
  have h1 : (Bd.map (·.1)).Nodup := ((h.perm.map _).nodup_iff).2 h.good.out
  exact nodup_of_map h1
theorem prevB_is (g : Good T) {e : Nat × Nat} (he : e ∈ borderT T) : prevB (borderT T) e ∈ borderT T ∧ (prevB (borderT T) e).2 = e.1 := by
  obtain ⟨⟨x, hx, hx2⟩, -⟩ := g.next e he
  unfold prevB
  cases hf : (borderT T).find? (fun p => p.2 == e.1) with
  | none =>
    have := List.find?_eq_none.1 hf x hx
    simp [hx2] at this
  | some p =>
    have h1 := List.find?_some hf
    have h2 := List.mem_of_find?_eq_some hf
    exact ⟨h2, by simpa using h1⟩
theorem Built.place_ghost (h : Built fa T Bd S) {k : Nat} {e : Nat × Nat} (he : Bd[k]? = some e) : placeM S ((T.length + k : Nat) : Int) (-1) = 2 := by
  obtain ⟨X, hX, e0, e1, e2⟩ := h.ghost he
  unfold placeM
  rw [getT_nat, hX]
  simp only []
  rw [(h.surf.alive hX).2]
  simp only [Bool.false_eq_true, if_false]
  unfold placeT
  rw [if_neg (by omega), if_neg (by omega), if_pos e2.symm]
theorem Built.place_real (h : Built fa T Bd S) {t : Nat} (ht : t < T.length) : placeM S (t : Int) (-1) = -1 := by
  obtain ⟨x, hx⟩ : ∃ x, T[t]? = some x := ⟨_, List.getElem?_eq_getElem ht⟩
  obtain ⟨X, hX, e0, e1, e2⟩ := h.real hx
  unfold placeM
  rw [getT_nat, hX]
  simp only []
  rw [(h.surf.alive hX).2]
  simp only [Bool.false_eq_true, if_false]
  unfold placeT
  rw [if_neg (by omega), if_neg (by omega), if_neg (by omega)]
theorem Built.first (h : Built fa T Bd S) (hb : Bd ≠ []) : firstM S (-1) = ((T.length : Nat) : Int) := by
  obtain ⟨e, he⟩ : ∃ e, Bd[0]? = some e := by
    cases hB : Bd with
    | nil => exact absurd hB hb
    | cons e l => exact ⟨e, rfl⟩
  have hl : 0 < Bd.length := (List.getElem?_eq_some_iff.1 he).1
  have := h.place_ghost he
  rw [Nat.add_zero] at this
  exact firstM_hit (by rw [h.len]; omega) (by rw [this]; omega) (fun j hj => h.place_real hj)
theorem Built.step (h : Built fa T Bd S) {k k' : Nat} {e e' : Nat × Nat} (he : Bd[k]? = some e) (he' : Bd[k']? = some e') (hn : e'.2 = e.1) : stepM S (-1) ((T.length + k : Nat) : Int) = ((T.length + k' : Nat) : Int) := by
  obtain ⟨X, hX, e0, e1, e2⟩ := h.ghost he
  obtain ⟨Y, hY, f0, f1, f2⟩ := h.ghost he'
  unfold stepM
  rw [getT_nat, hX]
  simp only []
  have hp : placeT X (-1) = 2 := by
    unfold placeT
    rw [if_neg (by omega), if_neg (by omega), if_pos e2.symm]
  rw [hp, show (((2 : Int)).toNat + 1) % 3 = 0 from rfl]
  have := (h.surf.across hX hY (i := 0) (j := 1) (by omega) (by omega) (by
    show (Y.v2, Y.v0) = (X.v2, X.v1)
    rw [f2, f0, e2, e1, hn])).1
  exact this
theorem Built.walk (h : Built fa T Bd S) {k0 : Nat} {e0 : Nat × Nat} (h0 : Bd[k0]? = some e0) : ∀ (n k : Nat) (e : Nat × Nat), Bd[k]? = some e → rimZ S (walkM S (-1) ((T.length + k0 : Nat) : Int) n ((T.length + k : Nat) : Int)) = (cycB (borderT T) e0 n e).map (fun x => (x.2 : Int))
  | 0, _, _, _ => rfl
  | n + 1, k, e, he => by
    have hp := h.place_ghost he
    obtain ⟨X, hX, x0, x1, x2⟩ := h.ghost he
    obtain ⟨hm, hn⟩ := prevB_is h.good (h.mem.1 (List.mem_of_getElem? he))
    obtain ⟨k', hk'⟩ := List.mem_iff_getElem?.1 (h.mem.2 hm)
    have hs := h.step he hk' hn
    have ih := Built.walk h h0 n k' _ hk'
    unfold walkM cycB
    rw [hp, if_neg (by omega), hs]
    have hv : vAt S (T.length + k) 0 = (e.2 : Int) := by unfold vAt; rw [hX]; exact x0
    have hd : (((T.length + k' : Nat) : Int) = ((T.length + k0 : Nat) : Int)) ↔ prevB (borderT T) e = e0 := by
      constructor
      · intro q
        have : k' = k0 := by omega
        subst this
        rw [hk'] at h0; exact Option.some.inj h0
      · intro q
        rw [q] at hk'
        have hkl := (List.getElem?_eq_some_iff.1 hk').1
        have := (List.getElem?_inj hkl h.nodup).1 (hk'.trans h0.symm)
        omega
    by_cases hq : prevB (borderT T) e = e0
    · rw [if_pos (hd.2 hq), if_pos hq]
      simp only [rimZ, List.map_cons, List.map_nil]
      rw [show (((2 : Int)).toNat + 1) % 3 = 0 from rfl, Int.toNat_natCast, hv]
    · rw [if_neg (fun x => hq (hd.1 x)), if_neg hq]
      unfold rimZ at ih ⊢
      rw [List.map_cons, List.map_cons, ih]
      simp only [Int.toNat_natCast]
      rw [show (((2 : Int)).toNat + 1) % 3 = 0 from rfl, hv]
theorem Built.border (h : Built fa T Bd S) {e0 : Nat × Nat} (h0 : Bd[0]? = some e0) : borderM S = (rimB (borderT T) (T.length + (borderT T).length) e0).map (fun v : Nat => (v : Int)) := by
  have hb : Bd ≠ [] := by rintro rfl; simp at h0
  unfold borderM rimB
  rw [h.first hb]
  have := h.walk h0 S.length 0 e0 h0
  rw [Nat.add_zero] at this
  rw [this, h.len, h.perm.length_eq, List.map_reverse, List.map_map]; rfl
theorem Built.rest (h : Built fa T Bd S) {k : Nat} {e : Nat × Nat} (he : Bd[k]? = some e) {X : TriM} (hX : S[T.length + k]? = some X) : realM S X.n2 = true := by
  obtain ⟨Y, hY, e0, e1, e2⟩ := h.ghost he
  rw [hX] at hY; cases hY
  obtain ⟨u, j, U, hU, hj, hE, hn, -⟩ := h.surf.other hX (i := 2) (by omega)
  have hE' : edgeV U j = ((e.1 : Int), (e.2 : Int)) := by rw [hE]; show (X.v1, X.v0) = _; rw [e0, e1]
  have hn' : X.n2 = (u : Int) := hn
  rw [hn', h.real_iff]
  rcases h.cases hU with ⟨x, hx, -⟩ | ⟨k', e', rfl, he', f0, f1, f2⟩
  · exact decide_eq_true (List.getElem?_eq_some_iff.1 hx).1
  · exfalso
    have hb := mem_border.1 (h.mem.1 (List.mem_of_getElem? he))
    have hb' := mem_border.1 (h.mem.1 (List.mem_of_getElem? he'))
    obtain rfl | rfl | rfl : j = 0 ∨ j = 1 ∨ j = 2 := by omega
    · simp only [edgeV, Prod.mk.injEq] at hE'; omega
    · simp only [edgeV, Prod.mk.injEq] at hE'; omega
    · simp only [edgeV, Prod.mk.injEq] at hE'
      have q : e' = (e.2, e.1) := Prod.ext (by simp only []; omega) (by simp only []; omega)
      rw [q] at hb'
      exact hb.2 hb'.1
end
end Go.MagM
namespace Go.Proofs.Ytecnnpkpgbbfkaa
open Go.RowKit Go.MagM
section
variable {F : Int → Int → Bool} {T : List (Nat × Nat × Nat)} {Bd : List (Nat × Nat)} {S : List TriM} {P : List (Int × Int)}
theorem built_gh (h : Built (faF F) T Bd S) : ∀ k, k ≤ S.length → ghN S k = k - T.length
  | 0, _ => by simp [ghN]
  | k + 1, hk => by
    have ih := built_gh h k (by omega)
    by_cases hlt : k < T.length
    · rw [ghN_none (h.place_real hlt), ih]; omega
    · have hl := h.len
      obtain ⟨e, he⟩ : ∃ e, Bd[k - T.length]? = some e := ⟨_, List.getElem?_eq_getElem (by omega)⟩
      have hp := h.place_ghost he
      rw [show T.length + (k - T.length) = k by omega] at hp
      rw [ghN_some (by rw [hp]; omega), ih]; omega
theorem built_formed (h : Built (faF F) T Bd S) (ht : ∀ t, t ∈ T → 0 < turnM P (t.1 : Int) (t.2.1 : Int) (t.2.2 : Int)) {k : Nat} {X : TriM} (hX : S[k]? = some X) : formedT P S X = true := by
  unfold formedT
  rcases h.cases hX with ⟨x, hx, e0, e1, e2⟩ | ⟨j, e, rfl, he, e0, e1, e2⟩
  · have hp : placeT X (-1) = -1 := by
      unfold placeT
      rw [if_neg (by omega), if_neg (by omega), if_neg (by omega)]
    rw [if_pos hp, e0, e1, e2]
    exact decide_eq_true (ht x (List.mem_of_getElem? hx))
  · have hp : placeT X (-1) = 2 := by
      unfold placeT
      rw [if_neg (by omega), if_neg (by omega), if_pos e2.symm]
    rw [hp, if_neg (by omega), if_neg (by omega), if_neg (by omega), h.rest he hX]
    obtain ⟨_, _, _, _, _, _, _, g0, _⟩ := h.surf.other hX (i := 0) (by omega)
    obtain ⟨_, _, _, _, _, _, _, g1, _⟩ := h.surf.other hX (i := 1) (by omega)
    have f0 : X.f0 = false := by
      have : X.f0 = faF F X.v1 X.v2 := g0
      rw [this, e2]; unfold faF; simp
    have f1 : X.f1 = false := by
      have : X.f1 = faF F X.v2 X.v0 := g1
      rw [this, e2]; unfold faF; simp
    rw [f0, f1]; rfl
theorem built_sound (h : Built (faF F) T Bd S) (ht : ∀ t, t ∈ T → 0 < turnM P (t.1 : Int) (t.2.1 : Int) (t.2.2 : Int)) (hb : borderT T ≠ [])
    (hc : ∀ e0, e0 ∈ borderT T → (rimB (borderT T) (T.length + (borderT T).length) e0).length = (borderT T).length ∧ (∀ v, v ∈ rimB (borderT T) (T.length + (borderT T).length) e0 → v < P.length) ∧ convexM P (rimB (borderT T) (T.length + (borderT T).length) e0) = true) : SoundIs P S true := by
  have hbl : 0 < (borderT T).length := List.length_pos_iff.2 hb
  have hBl := h.perm.length_eq
  obtain ⟨e0, he0⟩ : ∃ e0, Bd[0]? = some e0 := ⟨_, List.getElem?_eq_getElem (by omega)⟩
  obtain ⟨c1, c2, c3⟩ := hc e0 (h.mem.1 (List.mem_of_getElem? he0))
  have hbo := h.border he0
  refine .inr ⟨rfl, fun k X hX => ?_, ?_, ?_, _, hbo, c2, c3⟩
  · unfold okT; rw [built_formed h ht hX, h.surf.linked (faF_comm F) hX]; simp
  · intro e
    rw [hbo] at e
    have := congrArg List.length e
    rw [List.length_map, c1, List.length_nil] at this
    omega
  · rw [hbo, List.length_map, c1, built_gh h _ (Nat.le_refl _), h.len]; omega
end
/-- The points of a grid. -/
def gridP (w h : Nat) : List (Int × Int) := (List.range (h + 1)).flatMap fun y => (List.range (w + 1)).map fun x => (((2 * x : Nat) : Int), ((2 * y : Nat) : Int))
def soundG (w h bits : Nat) : Bool :=
  (gridT w h bits).all (fun t => decide (0 < turnM (gridP w h) (t.1 : Int) (t.2.1 : Int) (t.2.2 : Int))) && !(borderT (gridT w h bits)).isEmpty &&
  (borderT (gridT w h bits)).all (fun e0 =>
    (rimB (borderT (gridT w h bits)) ((gridT w h bits).length + (borderT (gridT w h bits)).length) e0).length == (borderT (gridT w h bits)).length &&
    (rimB (borderT (gridT w h bits)) ((gridT w h bits).length + (borderT (gridT w h bits)).length) e0).all (fun v => decide (v < (gridP w h).length)) &&
    convexM (gridP w h) (rimB (borderT (gridT w h bits)) ((gridT w h bits).length + (borderT (gridT w h bits)).length) e0)) &&
  decide (4 ≤ (gridT w h bits).length + (borderT (gridT w h bits)).length) && decide ((gridT w h bits).length ≤ 8) && (gridT w h bits).all (fun t => decide (t.1 < (gridP w h).length) && decide (t.2.1 < (gridP w h).length) && decide (t.2.2 < (gridP w h).length)) &&
  (gridP w h).all (fun p => decide (0 ≤ p.1 ∧ p.1 ≤ 4 ∧ 0 ≤ p.2 ∧ p.2 ≤ 4)) && decide ((gridP w h).length = (w + 1) * (h + 1))
def allSound : Bool := [1, 2].all fun w => [1, 2].all fun h => (List.range 16).all fun bits => soundG w h bits
set_option maxRecDepth 100000 in
theorem all_sound : allSound = true := by decide +kernel
theorem grid_soundG {w h : Nat} (hw : w = 1 ∨ w = 2) (hh : h = 1 ∨ h = 2) {bits : Nat} (hb : bits < 16) : soundG w h bits = true := by
  have := all_sound
  unfold allSound at this
  rw [List.all_eq_true] at this
  have h1 := this w (by rcases hw with rfl | rfl <;> simp)
  rw [List.all_eq_true] at h1
  have h2 := h1 h (by rcases hh with rfl | rfl <;> simp)
  rw [List.all_eq_true] at h2
  exact h2 bits (List.mem_range.2 hb)
/-- What is known of a grid. -/
structure GridOk (w h bits : Nat) : Prop where
  good : MagM.Good (gridT w h bits)
  turn : ∀ t, t ∈ gridT w h bits → 0 < turnM (gridP w h) (t.1 : Int) (t.2.1 : Int) (t.2.2 : Int)
  some_ : borderT (gridT w h bits) ≠ []
  rim : ∀ e0, e0 ∈ borderT (gridT w h bits) → (rimB (borderT (gridT w h bits)) ((gridT w h bits).length + (borderT (gridT w h bits)).length) e0).length = (borderT (gridT w h bits)).length ∧ (∀ v, v ∈ rimB (borderT (gridT w h bits)) ((gridT w h bits).length + (borderT (gridT w h bits)).length) e0 → v < (gridP w h).length) ∧ convexM (gridP w h) (rimB (borderT (gridT w h bits)) ((gridT w h bits).length + (borderT (gridT w h bits)).length) e0) = true
  four : 4 ≤ (gridT w h bits).length + (borderT (gridT w h bits)).length
  few : (gridT w h bits).length ≤ 8
  pts : ∀ t, t ∈ gridT w h bits → t.1 < (gridP w h).length ∧ t.2.1 < (gridP w h).length ∧ t.2.2 < (gridP w h).length
  small : ∀ p, p ∈ gridP w h → 0 ≤ p.1 ∧ p.1 ≤ 4 ∧ 0 ≤ p.2 ∧ p.2 ≤ 4
  many : (gridP w h).length = (w + 1) * (h + 1)
theorem grid_ok {w h : Nat} (hw : w = 1 ∨ w = 2) (hh : h = 1 ∨ h = 2) {bits : Nat} (hb : bits < 16) : GridOk w h bits := by
  have g := MagM.Good.of (grid_good hw hh hb)
  have s := grid_soundG hw hh hb
  unfold soundG at s
  simp only [Bool.and_eq_true, decide_eq_true_eq, List.all_eq_true, beq_iff_eq, Bool.not_eq_true', List.isEmpty_eq_false_iff] at s
  obtain ⟨⟨⟨⟨⟨⟨⟨s1, s2⟩, s3⟩, s4⟩, s5⟩, s6⟩, s7⟩, s8⟩ := s
  exact ⟨g, s1, s2, fun e he => by obtain ⟨⟨q1, q2⟩, q3⟩ := s3 e he; exact ⟨q1, q2, q3⟩, s4, s5, fun t ht => by obtain ⟨⟨q1, q2⟩, q3⟩ := s6 t ht; exact ⟨q1, q2, q3⟩, s7, s8⟩
end Go.Proofs.Ytecnnpkpgbbfkaa
