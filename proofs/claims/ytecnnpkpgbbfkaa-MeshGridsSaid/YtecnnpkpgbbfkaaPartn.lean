/- A region that draws its order, in a round of a loop over a function: by the laws for regions elsewhere. Over any program. -/
import Derived.Test.YtecnnpkpgbbfkaaPartf
import Derived.Test.YtecnnpkpgbbfkaaParti
import Derived.RangeFuncCalls
import Derived.OwnWalkIn
import Derived.OrdersIn
import Derived.Deep.RegionHeld3
import Derived.Test.YtecnnpkpgbbfkaaMeshN
import Derived.Test.YtecnnpkpgbbfkaaPartm
namespace Go.MagM
open Go
section
variable {P : Program} {l n : Nat} {md : Region.Mode} {ops : Array Oper} {Q : Exit → Act → World → Prop}
/-- No operation is a defer statement. -/
def noDefers (ops : Array Oper) : Bool := ops.all fun o => match o.op with
 | .defer _ => false
 | _ => true
theorem noDefers_at {i : Nat} {o : Oper} (h : noDefers ops = true) (ho : ops[i]? = some o) : ∀ c, o.op ≠ .defer c := by
 intro c e
 unfold noDefers at h
 rw [Array.all_eq_true_iff_forall_mem] at h
 have := h o (Array.mem_of_getElem? ho)
 rw [e] at this
 cases this
/-- Q where the region has run to its end; nothing else comes. -/
def OnlyN (Q : Exit → Act → World → Prop) : Exit → Act → World → Prop
 | .normal, a, w => Q .normal a w
 | _, _, _ => False
theorem OnlyN.normal {a : Act} {w : World} (h : Q .normal a w) : OnlyN Q .normal a w := h
theorem onlyN_out {P : Prop} (h : LetsOut (OnlyN Q)) : P := by
 obtain ⟨a, w, h⟩ := h
 exact (h : False).elim
theorem wpOp_round {i : Nat} {K K' : Act → World → Prop} {a : Act} {w : World} (hd : noDefers ops = true) (hK : ∀ a w, K a w → K' a w) (h : wpOp P ops (OnlyN Q) i K a w) : wpOpIn (Fence.wide.inRound l) n P ops Q i K' a w := by
 unfold wpOp at h
 unfold wpOpIn
 cases ho : ops[i]? with
 | none => rw [ho] at h; exact hK _ _ h
 | some o =>
  rw [ho] at h
  simp only [] at h ⊢
  split at h
  ·rename_i hw
   rw [if_pos hw]
   rcases h with h | ⟨_, h⟩
   ·refine ⟨fun _ _ => trivial, ?_⟩
    rw [Oper.semAt_eq _ _ _ (noDefers_at hd ho)]
    unfold Oper.wp at h
    generalize (execOp a.eval o).run P w = r at h
    cases r with
    | ok x w' =>
     cases x with
     | value v => exact hK _ _ h
     | skip => exact hK _ _ h
     | defer d => exact hK _ _ h
     | enter f args =>
      refine ⟨(fun h => by cases h), ?_⟩
      refine (CallsIn.inRound l (callsIn_wide.2 h)).mono fun e w'' he => ?_
      cases e with
      | returned v => exact hK _ _ he
      | panicked c => exact he.elim
      | outgrown => exact onlyN_out he
     | row row args => exact ⟨(fun h => by cases h), fun c cs _ => let ⟨v, w2, r, s⟩ := h c cs; ⟨v, w2, hK _ _ r, stepsIn_wide.2 s⟩⟩
     | _ => exact (h : False).elim
    | halt x w' =>
     cases x <;> exact (h : False).elim
   ·exact onlyN_out h
  ·rename_i hw
   rw [if_neg hw]
   exact ⟨fun _ _ => trivial, hK _ _ h⟩
theorem wpAny_round (hd : noDefers ops = true) : ∀ (fuel : Nat) (listed : Array Bool) (a : Act) (w : World), wpAny P md ops (OnlyN Q) fuel listed a w → wpAnyIn (Fence.wide.inRound l) n P md ops Q fuel listed a w
 | 0, _, _, _, h => h
 | fuel + 1, _, _, _, h => ⟨h.1, fun i hi => wpOp_round hd (fun a w k => wpAny_round hd fuel _ a w k) (h.2 i hi)⟩
theorem rnd_region_any {id : Nat} {a : Act} {w : World} (hm : P.follows .mixedOrders = true) (hd : noDefers ops = true)
  (h : wpAny P .any ops (OnlyN Q) ops.size (Array.replicate ops.size false) a w.drew) : (Code.region id ops true).wpIn (Fence.wide.inRound l) n P Q a w :=
 wpIn_region_any hm (wpAny_round hd _ _ _ _ h)
theorem rnd_region_G {id : Nat} {a : Act} {w : World} (S : Array Bool → World → Prop) (k : Nat) (ls : Array Bool) (hm : P.follows .mixedOrders = true) (hd : noDefers ops = true) (hn : ops.size = k) (hl : Array.replicate ops.size false = ls) (hS : S ls w.drew)
  (h : Cl .any ops ls → S ls w.drew → wpAnyG P .any ops (OnlyN Q) S k ls a w.drew) : (Code.region id ops true).wpIn (Fence.wide.inRound l) n P Q a w := by
 subst hl hn
 exact rnd_region_any hm hd (wpAny_of_G _ _ _ _ (h Cl.start hS))
theorem rnd_region_held {S : World → Prop} {id : Nat} {a : Act} {w : World} (hm : P.follows .mixedOrders = true) (hd : noDefers ops = true) (hS : S w.drew)
  (h : S w.drew → wpAnyH P .any ops (OnlyN Q) S ops.size (Array.replicate ops.size false) a w.drew) : (Code.region id ops true).wpIn (Fence.wide.inRound l) n P Q a w :=
 rnd_region_any hm hd (wpAny_of_held _ _ _ _ (h hS))
end
end Go.MagM
/- mesh's readers: round, border. -/
namespace Go.MagM
open Go.RowKit
theorem owns_turned {w w' : World} {base g : Nat} {e : TypeId} {size : Nat} {v : Value} {n : Nat} {xs : List Value} (h : w.ownsRow base e size v n xs) (ht : Turned w w' g) (hne : v.ownBlock ≠ some g) : w'.ownsRow base e size v n xs := by
 refine ⟨h.1, ?_⟩
 rcases h.2 with hn | ⟨g', cap, cur, rfl, h2, h3, h4⟩
 ·exact .inl hn
 ·exact .inr ⟨g', cap, cur, rfl, h2, (ht.block g' (fun e => hne (by rw [e]; rfl))).trans h3, h4⟩
theorem owns_blow {w w' : World} {base : Nat} {e : TypeId} {size : Nat} {v : Value} {n : Nat} {xs : List Value} (h : w.ownsRow base e size v n xs) (hb : Below w.heap.size w w') : w'.ownsRow base e size v n xs := by
 refine ⟨h.1, ?_⟩
 rcases h.2 with hn | ⟨g, cap, cur, hv, hg, hc, r⟩
 ·exact .inl hn
 ·exact .inr ⟨g, cap, cur, hv, hg, by rw [hb.block g (Array.getElem?_eq_some_iff.1 hc).1]; exact hc, r⟩
/-- A row of one cell an element, as a box. -/
theorem owns_box {w : World} {base g : Nat} {e : TypeId} {size n c : Nat} {xs : List Value} (h : w.ownsRow base e size (.slice (some ⟨g, 0, none⟩) n c) n xs) : Box w g xs := by
 rcases h.2 with ⟨h0, _⟩ | ⟨g', cap, cur, hv, hb, hg, h4, h5, h6, h7⟩
 ·cases h0
 ·simp only [Value.slice.injEq, Option.some.injEq] at hv
  obtain ⟨hv, -, -⟩ := hv
  injection hv with hv
  subst hv
  refine ⟨fun i u hi => ?_, fun i u hi => ?_⟩
  ·have := h.cells (g := g) rfl i u hi
   rwa [addr_add, Nat.zero_add] at this
  ·unfold World.frozen?; rw [hg]; simp
/-- The point of triangle t at place k. -/
def vAt (S : List TriM) (t k : Nat) : Int := match S[t]? with
 | some T => T.v k
 | none => 0
/-- The points that come behind those that are gone round. -/
def rimZ (S : List TriM) (l : List (Nat × Nat)) : List Int := l.map fun x => vAt S x.1 ((x.2 + 1) % 3)
def intCells (l : List Int) : List Value := l.map fun z => .int .i64 z
theorem walkM_len (S : List TriM) (v first : Int) : ∀ n t, (walkM S v first n t).length ≤ n
 | 0, _ => Nat.le_refl _
 | n + 1, t => by
  unfold walkM
  split
  ·simp
  ·split
   ·simp
   ·have := walkM_len S v first n (stepM S v t)
    rw [List.length_cons]; omega
def borderM (S : List TriM) : List Int := (rimZ S (walkM S (-1) (firstM S (-1)) S.length (firstM S (-1)))).reverse
theorem owns_mono {w : World} {base b' : Nat} {e : TypeId} {size : Nat} {v : Value} {n : Nat} {xs : List Value} (h : w.ownsRow base e size v n xs) (hb : b' ≤ base) : w.ownsRow b' e size v n xs := by
 refine ⟨h.1, ?_⟩
 rcases h.2 with hn | ⟨g, cap, cur, hv, hg, r⟩
 ·exact .inl hn
 ·exact .inr ⟨g, cap, cur, hv, by omega, r⟩
theorem heap_set_far (w : World) (g i b : Nat) (v : Value) (h : b ≠ g) : (w.setCell ⟨g, i, none⟩ v).heap[b]? = w.heap[b]? := by
 simp only [World.setCell, Array.getElem?_modify]
 rw [if_neg (Ne.symm h)]
theorem five_boxes (w : World) (v0 v1 v2 v3 v4 : Value) (t0 t1 t2 t3 t4 : TypeId) :
  Boxed (((((w.alloc (.cells #[v0] t0)).alloc (.cells #[v1] t1)).alloc (.cells #[v2] t2)).alloc (.cells #[v3] t3)).alloc (.cells #[v4] t4)) w.heap.size t0 v0 ∧
  Boxed (((((w.alloc (.cells #[v0] t0)).alloc (.cells #[v1] t1)).alloc (.cells #[v2] t2)).alloc (.cells #[v3] t3)).alloc (.cells #[v4] t4)) (w.heap.size + 1) t1 v1 ∧
  Boxed (((((w.alloc (.cells #[v0] t0)).alloc (.cells #[v1] t1)).alloc (.cells #[v2] t2)).alloc (.cells #[v3] t3)).alloc (.cells #[v4] t4)) (w.heap.size + 1 + 1) t2 v2 ∧
  Boxed (((((w.alloc (.cells #[v0] t0)).alloc (.cells #[v1] t1)).alloc (.cells #[v2] t2)).alloc (.cells #[v3] t3)).alloc (.cells #[v4] t4)) (w.heap.size + 1 + 1 + 1) t3 v3 ∧
  Boxed (((((w.alloc (.cells #[v0] t0)).alloc (.cells #[v1] t1)).alloc (.cells #[v2] t2)).alloc (.cells #[v3] t3)).alloc (.cells #[v4] t4)) (w.heap.size + 1 + 1 + 1 + 1) t4 v4 ∧
  (((((w.alloc (.cells #[v0] t0)).alloc (.cells #[v1] t1)).alloc (.cells #[v2] t2)).alloc (.cells #[v3] t3)).alloc (.cells #[v4] t4)).heap.size = w.heap.size + 5 ∧
  Below w.heap.size w (((((w.alloc (.cells #[v0] t0)).alloc (.cells #[v1] t1)).alloc (.cells #[v2] t2)).alloc (.cells #[v3] t3)).alloc (.cells #[v4] t4)) := by
 have n0 := Boxed.new w t0 v0
 have n1 := Boxed.new (w.alloc (.cells #[v0] t0)) t1 v1
 have n2 := Boxed.new ((w.alloc (.cells #[v0] t0)).alloc (.cells #[v1] t1)) t2 v2
 have n3 := Boxed.new (((w.alloc (.cells #[v0] t0)).alloc (.cells #[v1] t1)).alloc (.cells #[v2] t2)) t3 v3
 have n4 := Boxed.new ((((w.alloc (.cells #[v0] t0)).alloc (.cells #[v1] t1)).alloc (.cells #[v2] t2)).alloc (.cells #[v3] t3)) t4 v4
 simp only [World.size_alloc] at n1 n2 n3 n4
 refine ⟨(((n0.alloc _).alloc _).alloc _).alloc _, ((n1.alloc _).alloc _).alloc _, (n2.alloc _).alloc _, n3.alloc _, n4, by simp only [World.size_alloc], ?_⟩
 exact (((((Below.refl _ w).alloc (Nat.le_refl _) _).alloc (by simp) _).alloc (by simp; omega) _).alloc (by simp; omega) _).alloc (by simp; omega) _
theorem keepB_own {β : Type} {Pb : Nat → Prop} {W0 : World} (hP : ∀ b, Pb b → b < W0.heap.size) : OwnFrom W0.heap.size (fun (_ : β) W => KeepB Pb W0 W) := by
 intro s X Y row hs hg hr b hb
 have h1 := hs b hb
 have h2 := hP b hb
 have h3 : X.heap[b]? = some W0.heap[b] := h1.trans (Array.getElem?_eq_getElem h2)
 refine (hg.block b (Array.getElem?_eq_some_iff.1 h3).1 (fun e => ?_)).trans h1
 have := (hr b e.symm).1
 omega
end Go.MagM
namespace Go.Proofs.Ytecnnpkpgbbfkaa
open Go.RowKit Go.MagM Go.Shelf
attribute [local go_sem] Oper.semAt_some
theorem round_stops_first (n : Nat) (hn : 1 ≤ n) (Bb Bv Bm : Nat) (Pb : Nat → Prop) {mb pb pc : Nat} {ta : Option Addr} {tc : Nat} {P : List (Int × Int)} {S : List TriM} (v : Int) (w : World) (hm : MeshR w mb pb pc ta tc P S) (hin : MeshIn Pb mb pb ta) (hBb : w.cell? ⟨Bb, 0, none⟩ = some (.func (.func 34) #[.pointer (some ⟨mb, 0, none⟩)] #[])) (hBv : w.cell? ⟨Bv, 0, none⟩ = some (.int .i64 v)) (hBm : w.cell? ⟨Bm, 0, none⟩ = some (.pointer (some ⟨mb, 0, none⟩))) (_hPb : Pb Bb) (hPv : Pb Bv) (hPm : Pb Bm) (_hP : ∀ b, Pb b → b < w.heap.size) :
  SeqStopsK Fence.wide n Try.prog 50 #[.pointer (some ⟨Bb, 0, none⟩), .pointer (some ⟨Bv, 0, none⟩), .pointer (some ⟨Bm, 0, none⟩)] encR (KeepB Pb) (fun ys : List (RB S) => ys.map (·.1) = walkM S v (firstM S v) S.length (firstM S v)) (fun pre : List (RB S) => pre.map (·.1) <+: walkM S v (firstM S v) S.length (firstM S v)) S.length w := fun l J Jx W hW _ _ hY h0 =>
 round1_first n hn l Bb Bv Bm Pb v J Jx hY W (hm.below hW) hin ((hW.cell (p := ⟨Bb, 0, none⟩) (World.block_lt_of_cell? w _ hBb)).trans hBb) ((hW.cell (p := ⟨Bv, 0, none⟩) (World.block_lt_of_cell? w _ hBv)).trans hBv) ((hW.cell (p := ⟨Bm, 0, none⟩) (World.block_lt_of_cell? w _ hBm)).trans hBm) hPv hPm h0
set_option maxHeartbeats 1000000 in
theorem round_any (p fv : Value) (v : Int) (mb g : Nat) (w : World) (hp : p = .pointer (some ⟨mb, 0, none⟩)) (hf : fv = .func (.func g) #[.pointer (some ⟨mb, 0, none⟩)] #[]) :
  Calls Try.prog 33 #[p, .int .i64 v, fv] w fun e w' => e = .returned (.func (.func 50) #[] #[.pointer (some ⟨w.heap.size + 1 + 1, 0, none⟩), .pointer (some ⟨w.heap.size + 1, 0, none⟩), .pointer (some ⟨w.heap.size, 0, none⟩)]) ∧ w' = ((w.alloc (.cells #[p] 25)).alloc (.cells #[.int .i64 v] 3)).alloc (.cells #[fv] 57) := by
 subst hp hf
 go_enter Try.func33, Try.ntmps33
 go_wp2
 go_ret
 exact ⟨rfl, rfl⟩
theorem intCells_len (l : List Int) : (intCells l).length = l.length := by unfold intCells; rw [List.length_map]
theorem infoI : (Try.prog.info? 3).map (fun i => (i.zero, i.size, i.bytes)) = some (some (.int .i64 0), 1, 8) := by kernel_rfl
set_option maxRecDepth 100000 in
set_option maxHeartbeats 16000000 in
theorem border_room {mb pb pc : Nat} {ta : Option Addr} {tc : Nat} {P : List (Int × Int)} {S : List TriM} (w : World) (h : MeshR w mb pb pc ta tc P S) (hP0 : P ≠ []) (hne : borderM S ≠ []) :
  Calls Try.prog 23 #[.pointer (some ⟨mb, 0, none⟩)] w fun e w' => ∃ g c, e = .returned (.slice (some ⟨g, 0, none⟩) (borderM S).length c) ∧ (borderM S).length ≤ c ∧ Box w' g (intCells (borderM S)) ∧ w.heap.size ≤ g ∧ g < w'.heap.size ∧ Below w.heap.size w w' := by
 obtain ⟨i0, hi, hz0, hz1, hz2⟩ := info_parts infoI
 have HI := Lib.hid hi; have HZ0 := Lib.hid hz0; have HZ1 := Lib.hid hz1; have HZ2 := Lib.hid hz2
 clear hi hz0 hz1 hz2
 have hsh := h.short.2
 have hlm := h.lt
 have H := Lib.hid h; have HNE := Lib.hid hne
 have hlp : pb < w.heap.size := by
  cases P with
  | nil => exact absurd rfl hP0
  | cons p l => exact World.block_lt_of_cell? w _ (h.pts 0 p.1 p.2 rfl).1
 have hlt : ∀ b, ta = some ⟨b, 0, none⟩ → b < w.heap.size := by
  intro b hb
  cases S with
  | nil => exact absurd rfl hne
  | cons p l =>
   obtain ⟨b', e, hl, _⟩ := h.tris.get (i := 0) (T := p) rfl
   rw [hb] at e; simp at e; subst e; exact hl
 clear h hne hP0
 refine (callsIn_wide (n := 20)).1 (callsIn_of_wp_marks (F := Fence.wide) (n := 20) Try.func23 rfl trivial ?_ rfl)
 simp only [Try.ntmps23, List.size_toArray, List.length_cons, List.length_nil, Nat.reduceAdd, Nat.reduceSub, Array.replicate_succ, Array.replicate_zero, List.push_toArray, List.append_toArray, List.nil_append, List.cons_append]
 rw [wpIn_wide]
 go_wp2_with (go_at_call 33; refine (round_any _ _ _ mb 34 _ rfl rfl).mono ?_; rintro e w1 ⟨rfl, rfl⟩)
 rw [← wpIn_wide (n := 20)]
 obtain ⟨x0, x1, x2, x3, x4, hs0, hB0⟩ := five_boxes w (.pointer (some ⟨mb, 0, none⟩)) (.slice none 0 0) (.pointer (some ⟨mb, 0, none⟩)) (.int .i64 (-1)) (.func (.func 34) #[.pointer (some ⟨mb, 0, none⟩)] #[]) 25 38 25 3 57
 generalize hW0 : ((((w.alloc (.cells #[.pointer (some ⟨mb, 0, none⟩)] 25)).alloc (.cells #[.slice none 0 0] 38)).alloc (.cells #[.pointer (some ⟨mb, 0, none⟩)] 25)).alloc (.cells #[.int .i64 (-1)] 3)).alloc (.cells #[.func (.func 34) #[.pointer (some ⟨mb, 0, none⟩)] #[]] 57) = W0 at *
 clear hW0
 have hm0 := H.out.below hB0
 have hin : MeshIn (fun b => b ≠ w.heap.size + 1 ∧ b < w.heap.size + 5) mb pb ta := ⟨by omega, by omega, fun b hb => by have := hlt b hb; omega⟩
 have H0 := Lib.hid hm0; clear hm0
 refine wpIn_rangeFunc_ownG rfl (by omega) (gf := 50) (lb := #[.pointer (some ⟨w.heap.size + 1 + 1 + 1 + 1, 0, none⟩), .pointer (some ⟨w.heap.size + 1 + 1 + 1, 0, none⟩), .pointer (some ⟨w.heap.size + 1 + 1, 0, none⟩)]) rfl trivial (enters_of Try.func50 (by kernel_rfl) rfl)
  (round_stops_first 19 (by omega) _ _ _ (fun b => b ≠ w.heap.size + 1 ∧ b < w.heap.size + 5) (-1) W0 H0.out hin x4.cell x3.cell x2.cell (by omega) (by omega) (by omega) (fun b hb => by omega)) (fun h k => KeepB.trans h k) ?Kb (Below.refl _ _) (fun _ => rfl)
  (fun pre W => (∃ v, Boxed W (w.heap.size + 1) 38 v ∧ W.ownsRow (w.heap.size + 5) 3 1 v pre.length (intCells (rimZ S (pre.map (·.1)))) ∧ True) ∧ KeepB (fun b => b ≠ w.heap.size + 1 ∧ b < w.heap.size + 5) W0 W ∧ Below w.heap.size w W)
  (fun _ _ _ => False) ?own (fun _ _ _ _ _ hs _ _ => hs) ?start
  (fun x => { tmps := #[.pointer (some ⟨mb, 0, none⟩), .pointer (some ⟨w.heap.size, 0, none⟩), .slice none 0 0, .pointer (some ⟨w.heap.size + 1, 0, none⟩), .int .i64 (x.1.1 : Int), .int .i64 (x.1.2 : Int), .pointer (some ⟨mb, 0, none⟩), .pointer (some ⟨mb, 0, none⟩), .func (.func 34) #[.pointer (some ⟨mb, 0, none⟩)] #[], .func (.func 50) #[] #[.pointer (some ⟨w.heap.size + 1 + 1 + 1 + 1, 0, none⟩), .pointer (some ⟨w.heap.size + 1 + 1 + 1, 0, none⟩), .pointer (some ⟨w.heap.size + 1 + 1, 0, none⟩)], .int .i64 (x.1.1 : Int), .int .i64 (x.1.2 : Int), undef, undef, undef, undef, undef, undef, undef, undef, undef, undef, undef, undef, undef, undef, undef, undef, undef, undef], defers := [] }) ?assign ?body ?done ?stop
 case Kb =>
  intro W l o o' hl h _ _ b hb
  have : b ≠ l := by omega
  exact World.putObj_heap_other (fun e => this e)
 case own => exact OwnFrom.and (Own.from (holdsRow_own _ _ _ _ _ _ _ (fun _ _ => True)) _) (OwnFrom.and (keepB_own (fun b hb => by omega)) (ownFrom_below (Nat.le_refl _) (by omega)))
 case start => exact ⟨⟨_, x1, World.ownsRow_nil _ _ _ _, trivial⟩, KeepB.refl _ _, hB0⟩
 case assign =>
  intro l x W K hK
  dsimp only [encR]
  gi_wp2
  exact hK
 case body =>
  rintro l pre ⟨⟨m, k⟩, hm, hk⟩ W ⟨⟨v, hv, hrow, -⟩, hKB, hB⟩ hlen
  simp only [] at hm hk
  have hmW := H0.out.keep hin hKB
  obtain ⟨T, hT⟩ : ∃ T, S[m]? = some T := ⟨_, List.getElem?_eq_getElem hm⟩
  obtain ⟨tb, hta, htl, ht9⟩ := hmW.tris.get hT
  subst hta
  obtain ⟨k1, hk1⟩ : ∃ k1, (k + 1) % 3 = k1 := ⟨_, rfl⟩
  have hk13 : k1 < 3 := by omega
  obtain ⟨y, hy⟩ : ∃ y, T.v k1 = y := ⟨_, rfl⟩
  have hvat : vAt S m ((k + 1) % 3) = y := by unfold vAt; rw [hT, hk1]; exact hy
  have cy : W.drew.cell? ⟨tb, m * 9 + k1, none⟩ = some (.int .i64 y) := by rw [← hy]; exact ht9.v hk13
  have hv0 : Boxed W (w.heap.size) 25 (.pointer (some ⟨mb, 0, none⟩)) := (hKB w.heap.size (by omega)).trans x0
  have cm : W.drew.cell? ⟨w.heap.size, 0, none⟩ = some (.pointer (some ⟨mb, 0, none⟩)) := hv0.cell
  have co : W.drew.cell? ⟨w.heap.size + 1, 0, none⟩ = some v := hv.cell
  obtain ⟨len, hlen'⟩ : ∃ len, S.length = len := ⟨_, rfl⟩
  have ct : W.drew.cell? ⟨mb, 1, none⟩ = some (.slice (some ⟨tb, 0, none⟩) len tc) := by rw [← hlen']; exact hmW.box.c1
  rw [hlen'] at hm hlen hsh
  have hmod : ((k : Int) + 1).tmod 3 = (k1 : Int) := by have := mod_one k 3; rw [hk1] at this; exact this
  have hwk : IntKind.i64.wrap ((k : Int) + 1) = (k : Int) + 1 := by rw [IntKind.wrap_i64]; omega
  have hb1 : (0 : Int) ≤ (m : Int) := by omega
  have hb2 : (m : Int) < (len : Int) := by omega
  have hb3' : (0 : Int) ≤ (k1 : Int) := by omega
  have hb4' : (k1 : Int) < 3 := by omega
  have htbl : tb < w.heap.size := hlt tb rfl
  have HBB : Hid (Below w.heap.size w W.drew) := Lib.hid hB.drew'
  have HROW : Hid (W.drew.ownsRow (w.heap.size + 5) 3 1 v pre.length (intCells (rimZ S (pre.map (·.1))))) := Lib.hid hrow
  have HVB : Hid (Boxed W.drew (w.heap.size + 1) 38 v) := Lib.hid hv
  have HKB := Lib.hid hKB; have HB := Lib.hid hB; have HVAT := Lib.hid hvat; have HS5 : w.heap.size + 5 ≤ W.drew.heap.size := by
   have := (hKB (w.heap.size + 4) (by omega)).trans x4
   have := (Array.getElem?_eq_some_iff.1 this).1
   show w.heap.size + 5 ≤ W.heap.size
   omega
  have hWd : KeepsOthers W W.drew := KeepsOthers.drew W
  have HWK : Hid (∀ b : Nat, W.drew.heap[b]? = W.heap[b]?) := Lib.hid (fun _ => rfl)
  have HWK' := Lib.hid hWd; have HLN := Lib.hid hlen'
  have HWB : Hid (Below w.heap.size W W.drew) := Lib.hid ((Below.refl _ _).drew')
  clear hmW hT ht9 hy hvat hv0 hrow hv hKB hB hlen' hk1 x0 x1 x2 x3 x4 hWd
  gi_wp2
  obtain ⟨SSq, hSSq⟩ : ∃ S : Array Bool → World → Prop, ∀ l w', S l w' ↔ ((l.getD 14 true = false → w'.cell? ⟨w.heap.size + 1, 0, none⟩ = some (v)) ∧ (l.getD 15 true = false → w'.cell? ⟨w.heap.size, 0, none⟩ = some (.pointer (some ⟨mb, 0, none⟩))) ∧ (l.getD 15 true = false → w'.cell? ⟨mb, 1, none⟩ = some (.slice (some ⟨tb, 0, none⟩) len tc)) ∧ (l.getD 13 true = false → w'.cell? ⟨tb, m * 9 + k1, none⟩ = some (.int .i64 y))) := ⟨_, fun _ _ => Iff.rfl⟩
  refine rnd_region_G SSq 16 #[false, false, false, false, false, false, false, false, false, false, false, false, false, false, false, false] (by kernel_rfl) (by kernel_rfl) (by kernel_rfl) (by kernel_rfl) ((hSSq _ _).2 ⟨(fun _ => co), (fun _ => cm), (fun _ => ct), (fun _ => cy)⟩) (fun hCl hHeld => ?_)
  generalize W.drew = w2 at *
  refine rG 0 ?_ ?_ ?_ ?_ ?_ ?_ hCl hHeld ?_;rotate_left 2
  ·simp only [gA,gZ]; exact rfl
  ·intro l w'; rw [hSSq, hSSq]; rw [getD_set_ne (i := 0) (j := 14) true (by decide)]; rw [getD_set_ne (i := 0) (j := 15) true (by decide)]; rw [getD_set_ne (i := 0) (j := 13) true (by decide)]
  ·rfl
  ·intro w' hA; obtain ⟨l, hl, hi, hSl⟩ := hA; have hSl := (hSSq _ _).1 hSl; obtain ⟨hy0, hy1, hy2, -⟩ := hSl; have hz0 := hy0 (hl.not (t := 14) (by kernel_rfl) hi); have hz1 := hy1 (hl.not (t := 15) (by kernel_rfl) hi); have hz2 := hy2 (hl.not (t := 15) (by kernel_rfl) hi); go_simp; try with_reducible rfl
  clear hCl hHeld
  intro hCl hHeld
  simp only [List.setIfInBounds_toArray, List.set_cons_zero] at hCl hHeld
  (try simp only [Act.put]);try simp only [sA,sZ,sS]
  refine rG 1 ?_ ?_ ?_ ?_ ?_ ?_ hCl hHeld ?_;rotate_left 2
  ·simp only [gA,gS,gZ]; exact rfl
  ·intro l w'; rw [hSSq, hSSq]; rw [getD_set_ne (i := 1) (j := 14) true (by decide)]; rw [getD_set_ne (i := 1) (j := 15) true (by decide)]; rw [getD_set_ne (i := 1) (j := 13) true (by decide)]
  ·rfl
  ·intro w' hA; obtain ⟨l, hl, hi, hSl⟩ := hA; have hSl := (hSSq _ _).1 hSl; obtain ⟨-, hy1, hy2, -⟩ := hSl; have hz1 := hy1 (hl.not (t := 15) (by kernel_rfl) hi); have hz2 := hy2 (hl.not (t := 15) (by kernel_rfl) hi); go_simp; try with_reducible rfl
  clear hCl hHeld
  intro hCl hHeld
  simp only [sA,sZ,sS] at hCl hHeld
  (try simp only [Act.put]);try simp only [sA,sZ,sS]
  refine rG 2 ?_ ?_ ?_ ?_ ?_ ?_ hCl hHeld ?_;rotate_left 2
  ·simp only [gA,gS,gZ]; exact rfl
  ·intro l w'; rw [hSSq, hSSq]; rw [getD_set_ne (i := 2) (j := 14) true (by decide)]; rw [getD_set_ne (i := 2) (j := 15) true (by decide)]; rw [getD_set_ne (i := 2) (j := 13) true (by decide)]
  ·rfl
  ·intro w' hA;clear hA;go_simp;try with_reducible rfl
  clear hCl hHeld
  intro hCl hHeld
  simp only [sA,sZ,sS] at hCl hHeld
  (try simp only [Act.put]);try simp only [sA,sZ,sS]
  refine rG 3 ?_ ?_ ?_ ?_ ?_ ?_ hCl hHeld ?_;rotate_left 2
  ·simp only [gA,gS,gZ]; exact rfl
  ·intro l w'; rw [hSSq, hSSq]; rw [getD_set_ne (i := 3) (j := 14) true (by decide)]; rw [getD_set_ne (i := 3) (j := 15) true (by decide)]; rw [getD_set_ne (i := 3) (j := 13) true (by decide)]
  ·rfl
  ·intro w' hA;clear hA;go_simp;try with_reducible rfl
  clear hCl hHeld
  intro hCl hHeld
  simp only [sA,sZ,sS] at hCl hHeld
  (try simp only [Act.put]);try simp only [sA,sZ,sS]
  refine rG 4 ?_ ?_ ?_ ?_ ?_ ?_ hCl hHeld ?_;rotate_left 2
  ·simp only [gA,gS,gZ]; exact rfl
  ·intro l w'; rw [hSSq, hSSq]; rw [getD_set_ne (i := 4) (j := 14) true (by decide)]; rw [getD_set_ne (i := 4) (j := 15) true (by decide)]; rw [getD_set_ne (i := 4) (j := 13) true (by decide)]
  ·rfl
  ·intro w' hA; obtain ⟨l, hl, hi, hSl⟩ := hA; have hSl := (hSSq _ _).1 hSl; obtain ⟨-, hy1, hy2, -⟩ := hSl; have hz1 := hy1 (hl.not (t := 15) (by kernel_rfl) hi); have hz2 := hy2 (hl.not (t := 15) (by kernel_rfl) hi); go_simp; try with_reducible rfl
  clear hCl hHeld
  intro hCl hHeld
  simp only [sA,sZ,sS] at hCl hHeld
  (try simp only [Act.put]);try simp only [sA,sZ,sS]
  refine rG 5 ?_ ?_ ?_ ?_ ?_ ?_ hCl hHeld ?_;rotate_left 2
  ·simp only [gA,gS,gZ]; exact rfl
  ·intro l w'; rw [hSSq, hSSq]; rw [getD_set_ne (i := 5) (j := 14) true (by decide)]; rw [getD_set_ne (i := 5) (j := 15) true (by decide)]; rw [getD_set_ne (i := 5) (j := 13) true (by decide)]
  ·rfl
  ·intro w' hA;clear hA;go_simp;try with_reducible rfl
  clear hCl hHeld
  intro hCl hHeld
  simp only [sA,sZ,sS] at hCl hHeld
  (try simp only [Act.put]);try simp only [sA,sZ,sS]
  refine rG 6 ?_ ?_ ?_ ?_ ?_ ?_ hCl hHeld ?_;rotate_left 2
  ·simp only [gA,gS,gZ]; exact rfl
  ·intro l w'; rw [hSSq, hSSq]; rw [getD_set_ne (i := 6) (j := 14) true (by decide)]; rw [getD_set_ne (i := 6) (j := 15) true (by decide)]; rw [getD_set_ne (i := 6) (j := 13) true (by decide)]
  ·rfl
  ·intro w' hA;clear hA;go_simp;try with_reducible rfl
  clear hCl hHeld
  intro hCl hHeld
  simp only [sA,sZ,sS] at hCl hHeld
  (try simp only [Act.put]);try simp only [sA,sZ,sS]
  refine rG 7 ?_ ?_ ?_ ?_ ?_ ?_ hCl hHeld ?_;rotate_left 2
  ·simp only [gA,gS,gZ]; exact rfl
  ·intro l w'; rw [hSSq, hSSq]; rw [getD_set_ne (i := 7) (j := 14) true (by decide)]; rw [getD_set_ne (i := 7) (j := 15) true (by decide)]; rw [getD_set_ne (i := 7) (j := 13) true (by decide)]
  ·rfl
  ·intro w' hA;clear hA;go_simp;try with_reducible rfl
  clear hCl hHeld
  intro hCl hHeld
  simp only [sA,sZ,sS] at hCl hHeld
  (try simp only [Act.put]);try simp only [sA,sZ,sS]
  refine rG 8 ?_ ?_ ?_ ?_ ?_ ?_ hCl hHeld ?_;rotate_left 2
  ·simp only [gA,gS,gZ]; exact rfl
  ·intro l w'; rw [hSSq, hSSq]; rw [getD_set_ne (i := 8) (j := 14) true (by decide)]; rw [getD_set_ne (i := 8) (j := 15) true (by decide)]; rw [getD_set_ne (i := 8) (j := 13) true (by decide)]
  ·rfl
  ·intro w' hA;clear hA;go_simp;try with_reducible rfl
  clear hCl hHeld
  intro hCl hHeld
  simp only [sA,sZ,sS] at hCl hHeld
  (try simp only [Act.put]);try simp only [sA,sZ,sS]
  refine rG 9 ?_ ?_ ?_ ?_ ?_ ?_ hCl hHeld ?_;rotate_left 2
  ·simp only [gA,gS,gZ]; exact rfl
  ·intro l w'; rw [hSSq, hSSq]; rw [getD_set_ne (i := 9) (j := 14) true (by decide)]; rw [getD_set_ne (i := 9) (j := 15) true (by decide)]; rw [getD_set_ne (i := 9) (j := 13) true (by decide)]
  ·rfl
  ·intro w' hA;clear hA;go_simp;try with_reducible rfl
  clear hCl hHeld
  intro hCl hHeld
  simp only [sA,sZ,sS] at hCl hHeld
  (try simp only [Act.put]);try simp only [sA,sZ,sS]
  refine rG 10 ?_ ?_ ?_ ?_ ?_ ?_ hCl hHeld ?_;rotate_left 2
  ·simp only [gA,gS,gZ]; exact rfl
  ·intro l w'; rw [hSSq, hSSq]; rw [getD_set_ne (i := 10) (j := 14) true (by decide)]; rw [getD_set_ne (i := 10) (j := 15) true (by decide)]; rw [getD_set_ne (i := 10) (j := 13) true (by decide)]
  ·rfl
  ·intro w' hA;clear hA;go_simp;try with_reducible rfl
  clear hCl hHeld
  intro hCl hHeld
  simp only [sA,sZ,sS] at hCl hHeld
  (try simp only [Act.put]);try simp only [sA,sZ,sS]
  refine rG 11 ?_ ?_ ?_ ?_ ?_ ?_ hCl hHeld ?_;rotate_left 2
  ·simp only [gA,gS,gZ]; exact rfl
  ·intro l w'; rw [hSSq, hSSq]; rw [getD_set_ne (i := 11) (j := 14) true (by decide)]; rw [getD_set_ne (i := 11) (j := 15) true (by decide)]; rw [getD_set_ne (i := 11) (j := 13) true (by decide)]
  ·rfl
  ·intro w' hA;clear hA;go_simp;try with_reducible rfl
  clear hCl hHeld
  intro hCl hHeld
  simp only [sA,sZ,sS] at hCl hHeld
  (try simp only [Act.put]);try simp only [sA,sZ,sS]
  refine rG 12 ?_ ?_ ?_ ?_ ?_ ?_ hCl hHeld ?_;rotate_left 2
  ·simp only [gA,gS,gZ]; exact rfl
  ·intro l w'; rw [hSSq, hSSq]; rw [getD_set_ne (i := 12) (j := 14) true (by decide)]; rw [getD_set_ne (i := 12) (j := 15) true (by decide)]; rw [getD_set_ne (i := 12) (j := 13) true (by decide)]
  ·rfl
  ·intro w' hA; obtain ⟨l, hl, hi, hSl⟩ := hA; have hSl := (hSSq _ _).1 hSl; obtain ⟨-, hy1, hy2, hy3⟩ := hSl; have hz1 := hy1 (hl.not (t := 15) (by kernel_rfl) hi); have hz2 := hy2 (hl.not (t := 15) (by kernel_rfl) hi); have hz3 := hy3 (hl.not (t := 13) (by kernel_rfl) hi); go_simp; try with_reducible rfl
  clear hCl hHeld
  intro hCl hHeld
  simp only [sA,sZ,sS] at hCl hHeld
  (try simp only [Act.put]);try simp only [sA,sZ,sS]
  clear hCl hHeld
  obtain ⟨w3, hw3, pq_0, hb3, hs3⟩ := new_box w2 _ rfl [.int .i64 y] 3
  refine reg_callG 13 ?_ (by kernel_rfl) ?_ (fun K hK => ?_);rotate_left 1
  ·simp only [gA,gS,gZ]; exact rfl
  go_simp
  try rw [hw3]
  have do_ := (hb3.cell (p := ⟨w.heap.size + 1, 0, none⟩) (World.block_lt_of_cell? w2 _ co)).trans co
  have dm := (hb3.cell (p := ⟨w.heap.size, 0, none⟩) (World.block_lt_of_cell? w2 _ cm)).trans cm
  have dt := (hb3.cell (p := ⟨mb, 1, none⟩) (World.block_lt_of_cell? w2 _ ct)).trans ct
  refine hK.out _ _ ((hSSq _ _).2 ⟨(fun _ => do_), (fun _ => dm), (fun _ => dt), (fun h => absurd h (by decide))⟩) ?_
  clear hK K
  (try simp only [Act.put]);try simp only [sA,sZ,sS]
  have hrow3 : w3.ownsRow (w.heap.size + 5) 3 1 v pre.length (intCells (rimZ S (pre.map (·.1)))) := owns_blow HROW.out hb3
  obtain ⟨v', w4, hrun, hrow4, hgrow, -⟩ := run_append_own (P := Try.prog) w3 (w.heap.size + 5) 38 38 3 i0 (.int .i64 0) 1 8 (by kernel_rfl) HI.out HZ0.out HZ1.out HZ2.out rfl (by omega) v pre.length _ hrow3 ⟨w2.heap.size, 0, none⟩ 1 1 [.int .i64 y] rfl pq_0.news (by intro u hu; simp at hu; subst hu; rfl) (by unfold maxLen; omega) (by omega) (by have := HBB.out.size; omega)
  refine reg_callG 14 ?_ (by kernel_rfl) ?_ (fun K hK => ?_);rotate_left 1
  ·simp only [gA,gS,gZ]; exact rfl
  refine wanted_go rfl ?_
  refine wp_append_row _ _ 38 rfl rfl rfl hrun ?_
  obtain ⟨g', cap', rfl⟩ := ownsRow_succ hrow4
  have hgrow' : (w2.alloc (.cells #[.int .i64 y] 3)).grownBy w4 v.ownBlock := by rw [hw3]; exact hgrow
  have hvl := hrow3.lt
  have em := hgrow.cell dm (fun e => by have := (hvl _ e.symm).1; simp only [] at this; omega)
  have et := hgrow.cell dt (fun e => by have := (hvl _ e.symm).1; simp only [] at this; omega)
  obtain ⟨hv4, hv5, hr5, hk5, hb5⟩ := HVB.out.appended (by decide) (owns_mono HROW.out (show w.heap.size + 1 ≤ w.heap.size + 5 by omega)) (by have := HBB.out.size; omega) (Nat.le_refl _) (owns_mono hrow4 (show w.heap.size + 1 ≤ w.heap.size + 5 by omega)) hgrow'
  refine hK.out _ _ ((hSSq _ _).2 ⟨(fun h => absurd h (by decide)), (fun _ => em), (fun _ => et), (fun h => absurd h (by decide))⟩) ?_
  clear hK K
  (try simp only [Act.put]);try simp only [sA,sZ,sS]
  have c4 := hv4.cell; have f4 := hv4.frozen
  refine reg_callG 15 ?_ (by kernel_rfl) ?_ (fun K hK => ?_);rotate_left 1
  ·simp only [gA,gS,gZ]; exact rfl
  go_simp
  refine hK.out _ _ ((hSSq _ _).2 ⟨(fun h => absurd h (by decide)), (fun h => absurd h (by decide)), (fun h => absurd h (by decide)), (fun h => absurd h (by decide))⟩) ?_
  clear hK K
  (try simp only [Act.put]);try simp only [sA,sZ,sS]
  refine wpAnyG_done (by kernel_rfl) ?_ _
  refine OnlyN.normal ?_
  clear hSSq SSq
  have HKO := (HWK'.out.trans hk5).from W0.heap.size
  have hKP : KeepB (fun b => b ≠ w.heap.size + 1 ∧ b < w.heap.size + 5) W (w4.setCell ⟨w.heap.size + 1, 0, none⟩ (.slice (some ⟨g', 0, none⟩) (pre.length + 1) cap')) := by
   intro b hb
   rw [heap_set_far _ _ _ _ _ hb.1, hgrow.block b (by have := hb3.size; omega) (fun e => by have := (hvl _ e.symm).1; omega), hb3.block b (by omega)]
   exact HWK.out b
  refine ⟨HKO, hKP, ⟨⟨_, hv5, ?_, trivial⟩, HKB.out.trans hKP, HB.out.trans ((Below.trans (Below.refl _ _) ?_))⟩⟩
  ·have e1 : (pre ++ [(⟨(m, k), by rw [HLN.out]; exact hm, hk⟩ : RB S)]).length = pre.length + 1 := by simp
   have e2 : intCells (rimZ S ((pre ++ [(⟨(m, k), by rw [HLN.out]; exact hm, hk⟩ : RB S)]).map (·.1))) = intCells (rimZ S (pre.map (·.1))) ++ [.int .i64 y] := by
    simp [rimZ, intCells, HVAT.out]
   rw [e1, e2]
   exact hrow4.kept (grownBy_setCell' w4 (w.heap.size + 1) _) (.inr (hv4.not_row (by decide) hrow4).symm)
  ·exact HWB.out.trans (hb5.mono (by omega))
 case done =>
  rintro D ys W hD hS ⟨⟨v, hv, hrow, -⟩, hKB, hB⟩ hK
  have hbm : borderM S = (rimZ S (ys.map (·.1))).reverse := by unfold borderM; rw [hS]
  obtain ⟨zs, hzs⟩ : ∃ zs, rimZ S (ys.map (·.1)) = zs := ⟨_, rfl⟩
  rw [hzs] at hrow hbm
  have hzl : zs.length = ys.length := by rw [← hzs]; simp [rimZ]
  have hyl : ys.length ≠ 0 := by
   intro e
   apply HNE.out
   have hz0 : zs = [] := List.eq_nil_of_length_eq_zero (by rw [hzl]; exact e)
   rw [hbm, hz0]; rfl
  obtain ⟨q, hq⟩ : ∃ q, ys.length = q + 1 := ⟨ys.length - 1, by omega⟩
  have hwl : ys.length ≤ S.length := by
   have h1 : (ys.map (·.1)).length = (walkM S (-1) (firstM S (-1)) S.length (firstM S (-1))).length := by rw [hS]
   have h2 := walkM_len S (-1) (firstM S (-1)) S.length (firstM S (-1))
   rw [List.length_map] at h1; omega
  rw [hq] at hrow hzl hwl
  obtain ⟨g, c, rfl⟩ := ownsRow_succ hrow
  have hcap : q + 1 ≤ c := by
   rcases hrow.2 with ⟨h0, -⟩ | ⟨g', cap, cur, hv', -, -, h4, -⟩
   ·cases h0
   ·simp only [Value.slice.injEq] at hv'
    omega
  have HCAP := Lib.hid hcap
  clear hcap
  have hbx := owns_box hrow
  have hgl := (hrow.lt g rfl)
  have hDg : D ≠ g := by
   intro e
   subst e
   rcases hrow.2 with ⟨h0, -⟩ | ⟨g', cap, cur, hv', -, hg, -⟩
   ·cases h0
   ·simp only [Value.slice.injEq, Option.some.injEq] at hv'
    obtain ⟨h1, -, -⟩ := hv'
    injection h1 with h1
    subst h1
    rw [hK] at hg; cases hg
  have hrev := reverse_any g (q + 1) c zs W hzl (by omega) (by omega) hbx
  have HREV := Lib.hid hrev; have HBM := Lib.hid hbm; have HZL := Lib.hid hzl
  have co := hv.cell
  clear hrev hbm hS hzs hbx hq hrow hyl hKB hzl
  gi_wp2_with fail
  go_wp2_with fail
  refine HREV.out.mono ?_
  rintro e w5 ⟨rfl, hbx, htu⟩
  have hv5 : Boxed w5 (w.heap.size + 1) 38 _ := (htu.block _ (by omega)).trans hv
  have co5 := hv5.cell
  have hK5 : w5.heap[D]? = some (.deferred (some [])) := (htu.block D hDg).trans hK
  have hB5 : Below w.heap.size w w5 := Go.MagM.Below.turned hB htu (by omega)
  have hBX := Lib.hid hbx; have HGL : g < w5.heap.size := by rw [htu.size]; exact hgl.2
  clear hbx htu co
  go_wp2
  refine ⟨by simp, .inl ⟨_, _, rfl, run_takeDeferred hK5, ?_⟩⟩
  refine ⟨_, results_tmp rfl _ _ _, g, c, ?_, by rw [HBM.out, List.length_reverse, HZL.out]; exact HCAP.out, ?_, by omega, by simp only [World.putObj]; simpa using HGL, hB5.trans (belowK_b (w := w) (Nat.le_refl _) w5 D _ _ (by omega) hK5 rfl rfl)⟩
  ·rw [HBM.out, List.length_reverse, HZL.out]; rfl
  ·rw [HBM.out]
   have e := World.putObj_heap_other (w := w5) (r := D) (k := g) (o := .deferred none) (fun e => hDg e.symm)
   exact ⟨fun i u hi => (World.cell?_of_block (a := ⟨g, i, none⟩) e).trans (hBX.out.c i u hi), fun i u hi => (World.frozen?_of_block (a := ⟨g, i, none⟩) e).trans (hBX.out.f i u hi)⟩
 case stop =>
  rintro D c pre W _ _ h _
  exact h.elim
theorem border_any {mb pb pc : Nat} {ta : Option Addr} {tc : Nat} {P : List (Int × Int)} {S : List TriM} (w : World) (h : MeshR w mb pb pc ta tc P S) (hP0 : P ≠ []) (hne : borderM S ≠ []) :
  Calls Try.prog 23 #[.pointer (some ⟨mb, 0, none⟩)] w fun e w' => ∃ g c, e = .returned (.slice (some ⟨g, 0, none⟩) (borderM S).length c) ∧ Box w' g (intCells (borderM S)) ∧ w.heap.size ≤ g ∧ g < w'.heap.size ∧ Below w.heap.size w w' := by
 refine (border_room w h hP0 hne).mono ?_
 rintro e w' ⟨g, c, h1, -, h2⟩
 exact ⟨g, c, h1, h2⟩
end Go.Proofs.Ytecnnpkpgbbfkaa
/- mesh's iterator over all real triangles; the statements' has. -/
namespace Go.MagM
open Go.RowKit
/-- A real triangle, and its number. -/
abbrev RA (S : List TriM) := { x : Nat × TriM // S[x.1]? = some x.2 ∧ realT x.2 = true }
def triV (T : TriM) : Value := .agg #[.int .i64 T.v0, .int .i64 T.v1, .int .i64 T.v2, .int .i64 T.n0, .int .i64 T.n1, .int .i64 T.n2, .bool T.f0, .bool T.f1, .bool T.f2]
def encA {S : List TriM} (x : RA S) : Array Value := #[.int .i64 (x.1.1 : Int), triV x.1.2]
/-- The real ones among the first k. -/
def realsK (S : List TriM) : Nat → List (Nat × TriM)
 | 0 => []
 | k + 1 => realsK S k ++ (match S[k]? with
  | some T => if realT T = true then [(k, T)] else []
  | none => [])
theorem realsK_yes {S : List TriM} {k : Nat} {T : TriM} (h : S[k]? = some T) (hr : realT T = true) : realsK S (k + 1) = realsK S k ++ [(k, T)] := by
 rw [realsK, h]; simp only []; rw [if_pos hr]
theorem realsK_no {S : List TriM} {k : Nat} {T : TriM} (h : S[k]? = some T) (hr : realT T = false) : realsK S (k + 1) = realsK S k := by
 rw [realsK, h]; simp only []; rw [if_neg (by rw [hr]; decide), List.append_nil]
theorem realsK_len (S : List TriM) : ∀ k, (realsK S k).length ≤ k
 | 0 => Nat.le_refl _
 | k + 1 => by
  have := realsK_len S k
  rw [realsK, List.length_append]
  cases S[k]? with
  | none => simp; omega
  | some T => simp only []; split <;> simp <;> omega
theorem realsK_pre (S : List TriM) : ∀ m k, k ≤ m → realsK S k <+: realsK S m
 | 0, k, h => by
  obtain rfl : k = 0 := by omega
  exact List.prefix_refl _
 | m + 1, k, h => by
  rcases Nat.lt_or_ge k (m + 1) with g | g
  ·exact (realsK_pre S m k (by omega)).trans ⟨_, rfl⟩
  ·obtain rfl : k = m + 1 := by omega
   exact List.prefix_refl _
theorem grown_drewN (w : World) (q : Nat) (row : Option Nat) : w.grownBy (w.drewN q) row := ⟨rfl, rfl, rfl, Nat.le_refl _, fun _ _ _ => rfl⟩
end Go.MagM
namespace Go.Proofs.Ytecnnpkpgbbfkaa
open Go.RowKit Go.MagM Go.Shelf
attribute [local go_sem] Oper.semAt_some
set_option maxRecDepth 100000 in
set_option maxHeartbeats 8000000 in
theorem all1_any (n : Nat) (hn : 1 ≤ n) (l Bm : Nat) (Pb : Nat → Prop) {mb pb pc : Nat} {ta : Option Addr} {tc : Nat} {P : List (Int × Int)} {S : List TriM} (J Jx : List (RA S) → World → Prop)
  (hY : ∀ pre x W, J pre W → pre.length < S.length → YieldAt Fence.wide (n - 1) Try.prog l (encA x) W fun e W' =>
   (e = .returned (.bool true) ∧ J (pre ++ [x]) W' ∧ KeepB Pb W W') ∨ (e = .returned (.bool false) ∧ Jx (pre ++ [x]) W'))
  (hD : ∀ pre W q, J pre W → J pre (W.drewN q))
  (W : World) (hm : MeshR W mb pb pc ta tc P S) (hin : MeshIn Pb mb pb ta) (hBm : W.cell? ⟨Bm, 0, none⟩ = some (.pointer (some ⟨mb, 0, none⟩))) (hPm : Pb Bm) (h0 : J [] W) :
  CallsIn Fence.wide n Try.prog 25 #[.func (.yield l) #[] #[], .pointer (some ⟨Bm, 0, none⟩)] W fun e W' => (∃ v, e = .returned v) ∧
   ((∃ ys : List (RA S), ys.map (·.1) = realsK S S.length ∧ J ys W') ∨ (∃ pre : List (RA S), pre.map (·.1) <+: realsK S S.length ∧ Jx pre W')) := by
 have hF : ∀ k, Fence.wide.fn k := fun _ => trivial
 have hsh := hm.short.2
 obtain ⟨len, hlen⟩ : ∃ len, S.length = len := ⟨_, rfl⟩
 have b0 := hm.box.c0; have b1 := hm.box.c1
 rw [hlen] at b1 hsh
 have HM := Lib.hid hm; have HLEN := Lib.hid hlen; have HD := Lib.hid hD
 clear hm hlen hD
 refine callsIn_of_wp Try.func25 rfl trivial ?_ rfl
 simp only [Try.ntmps25, List.size_toArray, List.length_cons, List.length_nil, Nat.reduceAdd, Nat.reduceSub, Array.replicate_succ, Array.replicate_zero, List.push_toArray, List.append_toArray, List.nil_append, List.cons_append]
 gi_wp2
 clear b0 b1
 gi_loopw [3, 9] (fun _ iv wr => ∃ (i : Nat) (pre : List (RA S)), i ≤ len ∧ iv = .int .i64 i ∧ pre.map (·.1) = realsK S i ∧ J pre wr ∧ KeepB Pb W wr) (fun _ iv _ => len - (intOf iv).toNat)
 case atStart => exact ⟨0, [], Nat.zero_le _, rfl, rfl, h0, KeepB.refl _ _⟩
 case round =>
  obtain ⟨i, pre, hi, rfl, hpre, hJs, hnx⟩ := hrel
  have HPRE := Lib.hid hpre; clear hpre
  by_cases hlt : i < len
  ·have hcm : wr.cell? ⟨Bm, 0, none⟩ = some (.pointer (some ⟨mb, 0, none⟩)) := (hnx.cell hPm).trans hBm
   have hm_0 := HM.out.keep hin hnx
   obtain ⟨T, hT⟩ : ∃ T, S[i]? = some T := ⟨_, List.getElem?_eq_getElem (by rw [HLEN.out]; exact hlt)⟩
   have hre := Real_any (i : Int) wr hm_0
   have hrm : realM S (i : Int) = realT T := by unfold realM; rw [getT_nat, hT]
   rw [hrm] at hre
   obtain ⟨r, hr⟩ : ∃ r, realT T = r := ⟨_, rfl⟩
   rw [hr] at hre
   have HRE := Lib.hid hre; have HR := Lib.hid hr; have HT := Lib.hid hT; have HM0 := Lib.hid hm_0
   clear hre hr hT hm_0 hrm
   cases r with
   | false =>
    gi_wp2_with fail
    refine (callsIn_wide.2 HRE.out).mono ?_
    rintro e w' ⟨rfl, q, rfl⟩
    gi_wp2
    go_roundw
    case rel => exact ⟨i + 1, pre, by omega, by go_num, by rw [realsK_no HT.out HR.out]; exact HPRE.out, HD.out _ _ _ hJs, hnx.drew q⟩
    case measure => simp [intOf]; omega
   | true =>
    obtain ⟨x, hx⟩ : ∃ x : RA S, x.1 = (i, T) := ⟨⟨(i, T), HT.out, HR.out⟩, rfl⟩
    have hpl : pre.length < S.length := by
     have h1 := congrArg List.length HPRE.out
     have h2 := realsK_len S i
     rw [List.length_map] at h1
     rw [HLEN.out]; omega
    have hyy := fun q => hY pre x (wr.drewN q) (HD.out _ _ _ hJs) hpl
    have HYY := Lib.hid hyy; have HX := Lib.hid hx; have HNX := Lib.hid hnx; have HCM := Lib.hid hcm
    clear hyy hx hnx
    gi_wp2_with fail
    refine (callsIn_wide.2 HRE.out).mono ?_
    rintro e w' ⟨rfl, q, rfl⟩
    have hm_1 := HM0.out.drewN q
    obtain ⟨tb, hta, -, ht9⟩ := hm_1.tris.get HT.out
    subst hta
    have e0 := hm_1.box.c0; have e1 := hm_1.box.c1
    rw [HLEN.out] at e1
    have hcm1 : (wr.drewN q).cell? ⟨Bm, 0, none⟩ = some (.pointer (some ⟨mb, 0, none⟩)) := HCM.out
    obtain ⟨c0, c1, c2, c3, c4, c5, c6, c7, c8⟩ := ht9
    have hb1 : (0 : Int) ≤ (i : Int) := by omega
    have hb2 : (i : Int) < (len : Int) := by omega
    obtain ⟨fn, tmps, assign, body, hy, hR⟩ := HYY.out q
    unfold encA triV at hy
    rw [HX.out] at hy
    dsimp only at hy
    have hkk : KeepB Pb W (wr.drewN q) := HNX.out.drew q
    have HKK := Lib.hid hkk
    clear hm_1 hkk hcm
    obtain ⟨wd, hwd⟩ : ∃ wd, wr.drewN q = wd := ⟨_, rfl⟩
    rw [hwd] at e0 e1 hcm1 c0 c1 c2 c3 c4 c5 c6 c7 c8 hy hR HKK
    rw [hwd]
    clear hwd
    gi_wp2
    refine hR.mono ?_
    rintro e W3 (⟨rfl, hJ3, hk3'⟩ | ⟨rfl, hJx3⟩)
    ·have hkk := HKK.out
     gi_wp2
     go_roundw
     case rel => exact ⟨i + 1, pre ++ [x], by omega, by go_num, by rw [realsK_yes HT.out HR.out, List.map_append, HPRE.out, List.map_cons, List.map_nil, HX.out], hJ3, hkk.trans hk3'⟩
     case measure => simp [intOf]; omega
    ·gi_wp2
     refine bodyPost_ret (results_none rfl _ _ _) rfl ?_
     refine ⟨⟨_, rfl⟩, .inr ⟨pre ++ [x], ?_, hJx3⟩⟩
     rw [List.map_append, HPRE.out, List.map_cons, List.map_nil, HX.out, ← realsK_yes HT.out HR.out]
     exact realsK_pre S _ _ (by rw [HLEN.out]; omega)
  ·obtain rfl : i = len := by omega
   gi_wp2
   go_end0
   exact ⟨⟨_, rfl⟩, .inl ⟨pre, by rw [HPRE.out, HLEN.out], hJs⟩⟩
end Go.Proofs.Ytecnnpkpgbbfkaa
