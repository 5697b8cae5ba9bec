/- A slice that is the call's own and grows by append; of its cells none is a word. Over any program. -/
import Derived.Test.YtdfabocecpcmcaaParti
import Derived.Test.YtdfabocecpcmcaaPartj
import Derived.Laws.AppendOwn
import Derived.Test.YtdfabocecpcmcaaParth
namespace Go.MagM
open Go.RowKit
/-- v is a slice of n elements of size cells each, that lies in a block at base or above; its cells are xs, and none of the block's cells is a word. -/
def RowN (w : World) (base : Nat) (e : TypeId) (size : Nat) (v : Value) (n : Nat) (xs : List Value) : Prop :=
  xs.length = n * size ∧ ((v = .slice none 0 0 ∧ n = 0) ∨
    ∃ g cap cur, v = .slice (some ⟨g, 0, none⟩) n cap ∧ base ≤ g ∧ w.heap[g]? = some (.cells cur e (0, 0)) ∧ n ≤ cap ∧ cap ≤ maxLen ∧ cur.size = cap * size ∧ cur.toList.take (n * size) = xs ∧ ∀ u ∈ cur.toList, NoWord u)
theorem RowN.own {w : World} {base : Nat} {e : TypeId} {size : Nat} {v : Value} {n : Nat} {xs : List Value} (h : RowN w base e size v n xs) : w.ownsRow base e size v n xs := by
  refine ⟨h.1, ?_⟩
  rcases h.2 with h | ⟨g, cap, cur, h1, h2, h3, h4, h5, h6, h7, _⟩
  · exact .inl h
  · exact .inr ⟨g, cap, cur, h1, h2, h3, h4, h5, h6, h7⟩
theorem RowN.nil (w : World) (base : Nat) (e : TypeId) (size : Nat) : RowN w base e size (.slice none 0 0) 0 [] := ⟨by simp, .inl ⟨rfl, rfl⟩⟩
theorem RowN.lt {w : World} {base : Nat} {e : TypeId} {size : Nat} {v : Value} {n : Nat} {xs : List Value} (h : RowN w base e size v n xs) : ∀ k, v.ownBlock = some k → base ≤ k ∧ k < w.heap.size := h.own.lt
theorem RowN.block {w w' : World} {base : Nat} {e : TypeId} {size : Nat} {v : Value} {n : Nat} {xs : List Value} (h : RowN w base e size v n xs) (hb : ∀ k, v.ownBlock = some k → k < w.heap.size → w'.heap[k]? = w.heap[k]?) : RowN w' base e size v n xs := by
  refine ⟨h.1, ?_⟩
  rcases h.2 with h | ⟨g, cap, cur, rfl, h2, h3, h4⟩
  · exact .inl h
  · exact .inr ⟨g, cap, cur, rfl, h2, by rw [hb g rfl (Array.getElem?_eq_some_iff.1 h3).1]; exact h3, h4⟩
theorem RowN.below {w w' : World} {base : Nat} {e : TypeId} {size : Nat} {v : Value} {n : Nat} {xs : List Value} (h : RowN w base e size v n xs) (hb : Below w.heap.size w w') : RowN w' base e size v n xs :=
  h.block fun k _ hk => hb.block k hk
theorem RowN.drew {w : World} {base : Nat} {e : TypeId} {size : Nat} {v : Value} {n : Nat} {xs : List Value} (h : RowN w base e size v n xs) : RowN w.drew base e size v n xs := h
theorem RowN.grown {w w' : World} {base : Nat} {e : TypeId} {size : Nat} {v : Value} {n : Nat} {xs : List Value} {row : Option Nat} (h : RowN w base e size v n xs) (hg : w.grownBy w' row) (hne : ∀ k, v.ownBlock = some k → some k ≠ row) : RowN w' base e size v n xs :=
  h.block fun k hk hl => hg.block k hl (hne k hk)
theorem Box.grown {w w' : World} {g : Nat} {vs : List Value} {row : Option Nat} (h : Box w g vs) (hg : w.grownBy w' row) (hne : row ≠ some g) (hl : g < w.heap.size) : Box w' g vs := by
  have e := hg.block g hl (fun k => hne k.symm)
  exact ⟨fun i x hi => (World.cell?_of_block (a := ⟨g, i, none⟩) e).trans (h.c i x hi), fun i x hi => (World.frozen?_of_block (a := ⟨g, i, none⟩) e).trans (h.f i x hi)⟩
theorem addr_add (g o j : Nat) : (⟨g, o, none⟩ : Addr).add j = ⟨g, o + j, none⟩ := by unfold Addr.add; split <;> simp_all
theorem Box.news {w : World} {g : Nat} {vs : List Value} (h : Box w g vs) : ∀ j u, vs[j]? = some u → w.cell? ((⟨g, 0, none⟩ : Addr).add j) = some u := by
  intro j u hu; rw [addr_add, Nat.zero_add]; exact h.c j u hu
theorem RowN.cells {w : World} {base : Nat} {e : TypeId} {size : Nat} {v : Value} {n : Nat} {xs : List Value} (h : RowN w base e size v n xs) {g : Nat} (hg : v.ownBlock = some g) : ∀ j u, xs[j]? = some u → w.cell? ⟨g, j, none⟩ = some u := by
  intro j u hu
  have := h.own.cells hg j u hu
  rwa [addr_add, Nat.zero_add] at this
section
variable {P : Program}
theorem noWord_zero {z : Array Value} (hz : ∀ u ∈ z.toList, NoWord u) (n : Nat) : ∀ u ∈ (Builtin.zeroCells z n).toList, NoWord u := by
  intro u hu
  unfold Builtin.zeroCells at hu
  rw [Array.toList_map, List.mem_map] at hu
  obtain ⟨i, hi, rfl⟩ := hu
  have hi' : i < n * z.size := by simpa using hi
  have h0 : 0 < z.size := by
    rcases Nat.eq_zero_or_pos z.size with h | h
    · rw [h] at hi'; omega
    · exact h
  have hm := Nat.mod_lt i h0
  rw [getElem!_pos z (i % z.size) hm]
  exact hz _ (Array.mem_toList_iff.2 (Array.getElem_mem hm))
theorem Kept.alloc (w : World) (o : Obj) : Kept w (w.drew.alloc o) := fun a x h => by
  rw [World.cell?_of_block (w := w) (a := a) (heap_alloc_old w.drew o (World.block_lt_of_cell? w a h))]; exact h
/-- append: some slice comes, in some world; its cells are those of both. -/
theorem run_append_row (w : World) (base : Nat) (t ty e : TypeId) (i : TypeInfo) (z : Value) (size bytes : Nat) (ht : P.underlying t = some (.slice e)) (hi : P.info? e = some i) (hz : i.zero = some z)
    (hsize : i.size = size) (hby : i.bytes = bytes) (hzs : z.cells.size = size) (hzw : ∀ u ∈ z.cells.toList, NoWord u)
    (v : Value) (n : Nat) (xs : List Value) (hrow : RowN w base e size v n xs)
    (a : Addr) (m c : Nat) (news : List Value) (hm0 : 0 < m) (hl : news.length = m * size) (hnews : ∀ j u, news[j]? = some u → w.cell? (a.add j) = some u) (h1 : ∀ u ∈ news, u.oneCell' = true) (hnw : ∀ u ∈ news, NoWord u)
    (h63 : n + m ≤ maxLen) (hbytes : (n + m) * bytes ≤ 140737488355328) (hbase : base ≤ w.heap.size) :
    ∃ v' w', (Builtin.append_ #[t, t] ty #[v, .slice (some a) m c]).run P w = .ok v' w' ∧ RowN w' base e size v' (n + m) (xs ++ news) ∧ w.grownBy w' v.ownBlock ∧ Kept w w' := by
  subst hsize
  subst hby
  have hlen : (xs ++ news).length = (n + m) * i.size := by rw [List.length_append, hrow.1, hl, Nat.add_mul]
  have grown : ∀ (old : Nat), old < n + m → (∀ u ∈ xs, NoWord u) → ∀ (row : Option Nat),
      RowN (w.drew.alloc (.cells (xs.toArray ++ news.toArray ++ Builtin.zeroCells z.cells (grownCap w (n + m) old e - (n + m))) e)) base e i.size
        (.slice (some ⟨w.heap.size, 0, none⟩) (n + m) (grownCap w (n + m) old e)) (n + m) (xs ++ news) ∧
      w.grownBy (w.drew.alloc (.cells (xs.toArray ++ news.toArray ++ Builtin.zeroCells z.cells (grownCap w (n + m) old e - (n + m))) e)) row := by
    intro old ho hxw row
    have hge := grownCap_ge w (n + m) old e
    have hcm : grownCap w (n + m) old e ≤ maxLen := grownCap_le_maxLen w (n + m) old e h63
    refine ⟨⟨hlen, .inr ⟨w.heap.size, _, _, rfl, hbase, heap_alloc_new w.drew _, hge, hcm, ?_, ?_, ?_⟩⟩, ⟨rfl, rfl, rfl, by simp, fun k hk _ => heap_alloc_old w.drew _ hk⟩⟩
    · simp only [Array.size_append, List.size_toArray, size_zeroCells, hzs, hrow.1, hl, ← Nat.add_mul]
      congr 1
      omega
    · simp only [Array.toList_append, List.append_assoc]
      rw [← List.append_assoc, ← hlen]
      exact List.take_left
    · intro u hu
      simp only [Array.toList_append, List.mem_append] at hu
      rcases hu with (hu | hu) | hu
      · exact hxw u hu
      · exact hnw u hu
      · exact noWord_zero hzw _ u hu
  have hrow' := hrow
  rcases hrow.2 with ⟨rfl, rfl⟩ | ⟨g, cap, cur, rfl, hbg, hg, hnc, hcm, hcs, htake, hcw⟩
  · have hx : xs = [] := List.eq_nil_of_length_eq_zero (by simpa using hrow.1)
    subst hx
    have hr := run_append_nil (P := P) w t ty e i z ht hi hz a m c news hl hnews hm0 (by simp only [maxLen] at h63; omega) (by have hb := hbytes; simp only [Nat.zero_add] at hb; omega)
    have hgr := grown 0 (by omega) (fun u hu => by cases hu) (Value.ownBlock (.slice none 0 0))
    simp only [Nat.zero_add, List.nil_append, Array.empty_append] at hgr ⊢
    exact ⟨_, _, hr, hgr.1, hgr.2, Kept.alloc w _⟩
  · by_cases hroom : n + m ≤ cap
    · have hfit : n * i.size + news.length ≤ cur.size := by rw [hl, hcs, ← Nat.add_mul]; exact Nat.mul_le_mul_right _ hroom
      have hr := run_append_room (P := P) w t ty e i ht hi g n cap cur hg a m c news hl hnews h1 hroom hfit
      have hcells : ∀ u ∈ cur.toList.take (n * i.size) ++ news ++ cur.toList.drop (n * i.size + news.length), NoWord u := by
        intro u hu
        rw [List.mem_append, List.mem_append] at hu
        rcases hu with (hu | hu) | hu
        · exact hcw u (List.mem_of_mem_take hu)
        · exact hnw u hu
        · exact hcw u (List.mem_of_mem_drop hu)
      refine ⟨_, _, hr, ⟨hlen, .inr ⟨g, cap, _, rfl, hbg, setRow_heap w g cur _ e _ hg, hroom, hcm, ?_, ?_, hcells⟩⟩, ⟨rfl, rfl, rfl, by simp, fun k _ hk => setRow_other w g k _ (fun e => hk (by simp [Value.ownBlock, e]))⟩, ?_⟩
      · simp only [List.size_toArray, List.length_append, List.length_take, List.length_drop, Array.length_toList]
        omega
      · rw [htake, ← hlen]
        exact List.take_left
      · intro p x hp
        by_cases hpg : p.block = g
        · exfalso
          obtain ⟨pb, po, ps⟩ := p
          simp at hpg
          subst hpg
          have hsp := World.cell?_spot hp
          simp at hsp
          subst hsp
          rw [cell_of_row w pb po cur e (0, 0) hg] at hp
          have hmem : Value.int .u64 x ∈ cur.toList := Array.mem_toList_iff.2 (Array.mem_of_getElem? hp)
          exact hcw _ hmem x rfl
        · rw [World.cell?_of_block (w := w) (a := p) (setRow_other w g p.block _ hpg)]; exact hp
    · have holds : ∀ j u, xs[j]? = some u → w.cell? ((⟨g, 0, none⟩ : Addr).add j) = some u := hrow'.own.cells (g := g) rfl
      have hr := run_append_grow (P := P) w t ty e i z ht hi hz ⟨g, 0, none⟩ n cap xs hrow'.1 holds a m c news hl hnews (by omega) (by simp only [maxLen] at h63; omega) (growslice_fits (by omega) hbytes)
      have hgr := grown cap (by omega) (fun u hu => hcw u (by rw [← htake] at hu; exact List.mem_of_mem_take hu)) (Value.ownBlock (.slice (some ⟨g, 0, none⟩) n cap))
      exact ⟨_, _, hr, hgr.1, hgr.2, Kept.alloc w _⟩
theorem wanted_go {o : Oper} {y : Nat → Option Bool} {A B : Prop} (hg : o.guard = none) (h : A) : if Region.wanted o y = true then A else B := by
  have e : Region.wanted o y = true := by simp [Region.wanted, hg]
  rw [if_pos e]; exact h
/-- The operation, in a walk. -/
theorem wp_append_row {w : World} {o : Oper} {a : Act} {K : Act → World → Prop} {Q : Exit → Act → World → Prop} (s x : Operand) (t : TypeId)
    (ho : o.op = .call { callee := .builtin .append, args := #[s, x], argTypes := #[t, t] })
    {v v' : Value} {u : Value} {w' : World} (hs : a.eval s = v) (hx : a.eval x = u) (hr : (Builtin.append_ #[t, t] o.type #[v, u]).run P w = .ok v' w')
    (h : K (a.put o.dst v') w') : o.wp P a w K Q := by
  unfold Oper.wp execOp
  simp only [ho, resolve, invoke, builtin, Sem.run_bind, Sem.run_pure, Result.andThen_ok, List.map_toArray, List.map_cons, List.map_nil, hs, hx, hr]
  exact h
end
end Go.MagM
/- The calls of wide: below, less, across, size, Of, Sign. -/
namespace Go.Proofs.Ytdfabocecpcmcaa
open Go.RowKit Go.MagM
/-- A call's answer is a number of 128 bits. -/
def AnsW (w w' : World) (e : Ending) (z : Int) : Prop := e = .returned (.agg #[.int .u64 ((wh z : Nat) : Int), .int .u64 ((wl z : Nat) : Int)]) ∧ Below w.heap.size w w'
theorem high_and (h : Nat) (hB : h < B) : h &&& 9223372036854775808 = if 9223372036854775808 ≤ h then 9223372036854775808 else 0 := by
  have e : (9223372036854775808 : Nat) = 2 ^ 63 := by decide
  unfold B at hB
  apply Nat.eq_of_testBit_eq
  intro i
  rw [Nat.testBit_and]
  split
  · rename_i c
    rw [e, Nat.testBit_two_pow]
    by_cases hi : 63 = i
    · subst hi
      have : h / 2 ^ 63 % 2 = 1 := by omega
      simp [Nat.testBit_eq_decide_div_mod_eq, this]
    · simp [hi]
  · rename_i c
    rw [e, Nat.testBit_two_pow, Nat.zero_testBit]
    by_cases hi : 63 = i
    · subst hi
      rw [Nat.testBit_lt_two_pow (by omega)]; rfl
    · simp [hi]
theorem below_bit {z : Int} (hz : InW z) : (bits .and .u64 ((wh z : Nat) : Int) 9223372036854775808 != 0) = decide (z < 0) := by
  have h2 : bits .and .u64 ((wh z : Nat) : Int) 9223372036854775808 = ((wh z &&& 9223372036854775808 : Nat) : Int) := bits_and_u64_nat (wh z) 9223372036854775808 (by have := wh_lt z; unfold B at this; omega) (by omega)
  rw [h2, high_and _ (wh_lt z)]
  have h3 := w_neg hz
  by_cases c : z < 0
  · rw [if_pos (h3.2 c)]; simp [c]
  · rw [if_neg (mt h3.1 c)]; simp [c]
end Go.Proofs.Ytdfabocecpcmcaa
/- The calls of wide: Sign, Cmp. -/
namespace Go.Proofs.Ytdfabocecpcmcaa
open Go.RowKit Go.MagM
/-- The number of 128 bits that has these words. -/
def wrapW (z : Int) : Int := (z + 170141183460469231731687303715884105728) % 340282366920938463463374607431768211456 - 170141183460469231731687303715884105728
theorem wrapW_in (z : Int) : InW (wrapW z) := by unfold wrapW InW; omega
theorem wrapW_h (z : Int) : wh (wrapW z) = wh z := by unfold wrapW wh; omega
theorem wrapW_l (z : Int) : wl (wrapW z) = wl z := by unfold wrapW wl; omega
theorem wrapW_self {z : Int} (h : InW z) : wrapW z = z := by unfold wrapW; unfold InW at h; omega
theorem cmp_u64_is (x y : Nat) (c : Int) (w : World) (h : cmpn x y = c) : Calls Try.prog 76 #[.int .u64 x, .int .u64 y] w fun e w' => e = .returned (.int .i64 c) ∧ Below w.heap.size w w' := by
  subst h; exact (cmp_u64 x y w).mono fun e w' h => by obtain ⟨h1, rfl⟩ := h; exact ⟨h1, Below.refl _ _⟩
theorem w_high {z : Int} (h : InW z) : IntKind.i64.wrap ((wh z : Nat) : Int) = z / 18446744073709551616 := by
  unfold InW at h; rw [IntKind.wrap_i64]; unfold wh; omega
theorem w_low (z : Int) : ((wl z : Nat) : Int) = z % 18446744073709551616 := by unfold wl; omega
end Go.Proofs.Ytdfabocecpcmcaa
/- The calls of wide, walked: Add (below). -/
namespace Go.Proofs.Ytdfabocecpcmcaa
open Go.RowKit Go.MagM
end Go.Proofs.Ytdfabocecpcmcaa
/- The calls of wide, walked: Add (not below). -/
namespace Go.Proofs.Ytdfabocecpcmcaa
open Go.RowKit Go.MagM
end Go.Proofs.Ytdfabocecpcmcaa
/- The calls of wide, walked: Sub (below). -/
namespace Go.Proofs.Ytdfabocecpcmcaa
open Go.RowKit Go.MagM
end Go.Proofs.Ytdfabocecpcmcaa
/- The calls of wide, walked: Sub (not below). -/
namespace Go.Proofs.Ytdfabocecpcmcaa
open Go.RowKit Go.MagM
end Go.Proofs.Ytdfabocecpcmcaa
/- The calls of wide: Add, Sub, Neg. -/
namespace Go.Proofs.Ytdfabocecpcmcaa
open Go.RowKit Go.MagM
/-- A call's answer is a number of 128 bits, and whether it is one. -/
def AnsWB (w w' : World) (e : Ending) (z : Int) (b : Bool) : Prop := e = .returned (.tuple #[.agg #[.int .u64 ((wh z : Nat) : Int), .int .u64 ((wl z : Nat) : Int)], .bool b]) ∧ Below w.heap.size w w'
/-- What is told of a number: that number, if it is one of 128 bits, else 0 and false. -/
def fitW (z : Int) : Int := if InW z then z else 0
theorem fitW_yes {z : Int} (h : InW z) : fitW z = z := if_pos h
theorem fitW_no {z : Int} (h : ¬ InW z) : fitW z = 0 := if_neg h
theorem answb_yes {w w' : World} {e : Ending} {z : Int} (h : InW z) (he : e = .returned (.tuple #[.agg #[.int .u64 ((wh (z) : Nat) : Int), .int .u64 ((wl (z) : Nat) : Int)], .bool true]) ∧ Below w.heap.size w w') : AnsWB w w' e (fitW z) (decide (InW z)) := by
  rw [fitW_yes h, decide_eq_true h]; exact he
theorem answb_no {w w' : World} {e : Ending} {z : Int} (h : ¬ InW z) (he : e = .returned (.tuple #[.agg #[.int .u64 0, .int .u64 0], .bool false]) ∧ Below w.heap.size w w') : AnsWB w w' e (fitW z) (decide (InW z)) := by
  rw [fitW_no h, decide_eq_false h]; unfold AnsWB; rw [wh_zero, wl_zero]; exact he
theorem carry_le (x y : Int) : (wl x + wl y + 0) / B ≤ 1 := by have := wl_lt x; have := wl_lt y; simp only [B_eq] at *; omega
end Go.Proofs.Ytdfabocecpcmcaa
/- The calls of wide: Mul, Det. -/
namespace Go.Proofs.Ytdfabocecpcmcaa
open Go.RowKit Go.MagM
theorem mul64_is (x y H L : Nat) (w : World) (hx : x < B) (hy : y < B) (h1 : x * y / B = H) (h2 : x * y % B = L) :
    Calls Try.prog 78 #[.int .u64 ((x : Nat) : Int), .int .u64 ((y : Nat) : Int)] w fun e w' => e = .returned (.tuple #[.int .u64 ((H : Nat) : Int), .int .u64 ((L : Nat) : Int)]) ∧ Below w.heap.size w w' := by
  subst h1; subst h2
  exact (mul64_any x y w hx hy).mono fun e w' h => by obtain ⟨h1, rfl⟩ := h; exact ⟨h1, Below.refl _ _⟩
theorem inW_int {n : Int} (h : -9223372036854775808 ≤ n) (h1 : n < 9223372036854775808) : InW n := by unfold InW; omega
end Go.Proofs.Ytdfabocecpcmcaa
/- The calls of wide: Num. -/
namespace Go.Proofs.Ytdfabocecpcmcaa
open Go.RowKit Go.MagM
theorem make_two (b : Bool) (g lo hi : Nat) (w : World) (h : Box w g [.int .u64 ((lo : Nat) : Int), .int .u64 ((hi : Nat) : Int)]) (hl : lo < B) (hh : hi < B) :
    Calls Try.prog 44 #[.bool b, .slice (some ⟨g, 0, none⟩) 2 2] w fun e w' => AnsNum w w' e 2 (sgn b (lo + hi * B)) := by
  refine Make_any b _ 2 _ w (by omega) ⟨some ⟨g, 0, none⟩, 2, 2, fun i => if i = 0 then lo else hi, rfl, Nat.le_refl _, Nat.le_refl _, ?_, ?_⟩
  · intro i hi2
    refine ⟨g, 0, rfl, ?_, ?_⟩
    · rcases (by omega : i = 0 ∨ i = 1) with rfl | rfl
      · exact h.c0
      · exact h.c1
    · dsimp only
      split
      · exact hl
      · exact hh
  · simp [V]
end Go.Proofs.Ytdfabocecpcmcaa
/- The calls of pred: turn, Orient, Area2, Dist2. -/
namespace Go.Proofs.Ytdfabocecpcmcaa
open Go.RowKit Go.MagM
end Go.Proofs.Ytdfabocecpcmcaa
/- The calls of pred: within, On, Between, parts, Crosses, Meets. -/
namespace Go.Proofs.Ytdfabocecpcmcaa
open Go.RowKit Go.MagM
end Go.Proofs.Ytdfabocecpcmcaa
/- The calls of pred: Between. -/
namespace Go.Proofs.Ytdfabocecpcmcaa
open Go.RowKit Go.MagM
end Go.Proofs.Ytdfabocecpcmcaa
/- The calls of pred: Meets. -/
namespace Go.Proofs.Ytdfabocecpcmcaa
open Go.RowKit Go.MagM
end Go.Proofs.Ytdfabocecpcmcaa
/- On, parts, Crosses, Meets, Between: what they answer. -/
namespace Go.Proofs.Ytdfabocecpcmcaa
open Go.RowKit Go.MagM
/-- A point on a line, its ends with it. -/
def onP (a0 a1 b0 b1 v0 v1 : Int) : Bool := decide ((crs b0 b1 v0 v1 a0 a1 = 0 ∧ min b0 v0 ≤ a0 ∧ a0 ≤ max b0 v0) ∧ min b1 v1 ≤ a1 ∧ a1 ≤ max b1 v1)
theorem sign_cases (z : Int) : z.sign = -1 ∨ z.sign = 0 ∨ z.sign = 1 := by
  rcases Int.lt_trichotomy z 0 with h | h | h
  · exact .inl (Int.sign_eq_neg_one_of_neg h)
  · subst h; exact .inr (.inl rfl)
  · exact .inr (.inr (Int.sign_eq_one_of_pos h))
theorem sign_mul_wrap (y z : Int) : IntKind.i64.wrap (y.sign * z.sign) = y.sign * z.sign := by
  rcases sign_cases y with h | h | h <;> rcases sign_cases z with k | k | k <;> rw [h, k] <;> rfl
theorem sign_neg_wrap (z : Int) : IntKind.i64.wrap (-z.sign) = -z.sign := by
  rcases sign_cases z with h | h | h <;> rw [h] <;> rfl
/-- Two points to both sides of a line. -/
def parP (a0 a1 b0 b1 v0 v1 u0 u1 : Int) : Bool := decide ((crs a0 a1 b0 b1 v0 v1).sign * (crs a0 a1 b0 b1 u0 u1).sign < 0)
/-- Two lines that cross. -/
def crossP (a0 a1 b0 b1 v0 v1 u0 u1 : Int) : Bool := parP a0 a1 b0 b1 v0 v1 u0 u1 && parP v0 v1 u0 u1 a0 a1 b0 b1
/-- Two lines that meet. -/
def meetP (a0 a1 b0 b1 v0 v1 u0 u1 : Int) : Bool := crossP a0 a1 b0 b1 v0 v1 u0 u1 || onP a0 a1 v0 v1 u0 u1 || onP b0 b1 v0 v1 u0 u1 || onP v0 v1 a0 a1 b0 b1 || onP u0 u1 a0 a1 b0 b1
theorem ne_pt {a b c d : Int} {α : Type} {u v : α} (h : ¬ (a = b ∧ c = d)) : (if a = b then if c = d then u else v else v) = v := by
  by_cases h1 : a = b
  · rw [if_pos h1, if_neg (fun h2 => h ⟨h1, h2⟩)]
  · rw [if_neg h1]
end Go.Proofs.Ytdfabocecpcmcaa
/- Points over Rat: centres, lines, shares. Over no program. -/
namespace Go.Proofs.Ytdfabocecpcmcaa
open Go.MagM
theorem ic_sub (a b : Int) : ((a - b : Int) : Rat) = (a : Rat) - (b : Rat) := Rat.intCast_sub a b
theorem ic_add (a b : Int) : ((a + b : Int) : Rat) = (a : Rat) + (b : Rat) := Rat.intCast_add a b
theorem ic_mul (a b : Int) : ((a * b : Int) : Rat) = (a : Rat) * (b : Rat) := Rat.intCast_mul a b
theorem ic_ne {a : Int} (h : a ≠ 0) : (a : Rat) ≠ 0 := fun e => h (Rat.intCast_inj.1 (e.trans rfl))
theorem crs_q (a0 a1 b0 b1 v0 v1 : Int) : ((crs a0 a1 b0 b1 v0 v1 : Int) : Rat) = ((b0 : Rat) - a0) * ((v1 : Rat) - a1) - ((b1 : Rat) - a1) * ((v0 : Rat) - a0) := by
  unfold crs; simp only [ic_sub, ic_mul]
theorem sqd_q (a0 a1 b0 b1 : Int) : ((sqd a0 a1 b0 b1 : Int) : Rat) = ((b0 : Rat) - a0) * ((b0 : Rat) - a0) + ((b1 : Rat) - a1) * ((b1 : Rat) - a1) := by
  unfold sqd; simp only [ic_sub, ic_mul, ic_add]; grind
/-- To the left, on the line, to the right. -/
def sideQ (ax ay bx by' sx sy : Rat) : Int := qcmp ((bx - ax) * (sy - ay)) ((by' - ay) * (sx - ax))
def withinQ (n a b : Rat) : Bool := decide (qcmp n a * qcmp n b ≤ 0)
def onQ (sx sy ax ay bx by' : Rat) : Bool := withinQ sx ax bx && withinQ sy ay by' && (sideQ ax ay bx by' sx sy == 0)
def distQ (ax ay bx by' : Rat) : Rat := (bx - ax) * (bx - ax) + (by' - ay) * (by' - ay)
theorem qcmp_cases (p q : Rat) : (p < q ∧ qcmp p q = -1) ∨ (p = q ∧ qcmp p q = 0) ∨ (q < p ∧ qcmp p q = 1) := by
  by_cases h : p < q
  · exact .inl ⟨h, qcmp_lt h⟩
  · by_cases h2 : q < p
    · exact .inr (.inr ⟨h2, qcmp_gt h2⟩)
    · have e : p = q := by grind
      subst e; exact .inr (.inl ⟨rfl, qcmp_self _⟩)
theorem within_iff (n a b : Rat) : withinQ n a b = true ↔ (a ≤ n ∧ n ≤ b) ∨ (b ≤ n ∧ n ≤ a) := by
  unfold withinQ
  rw [decide_eq_true_iff]
  rcases qcmp_cases n a with ⟨h, e⟩ | ⟨h, e⟩ | ⟨h, e⟩ <;> rcases qcmp_cases n b with ⟨k, f⟩ | ⟨k, f⟩ | ⟨k, f⟩ <;> rw [e, f]
  · exact ⟨fun x => absurd x (by decide), fun x => by grind⟩
  · exact ⟨fun _ => by grind, fun _ => by decide⟩
  · exact ⟨fun _ => by grind, fun _ => by decide⟩
  · exact ⟨fun _ => by grind, fun _ => by decide⟩
  · exact ⟨fun _ => by grind, fun _ => by decide⟩
  · exact ⟨fun _ => by grind, fun _ => by decide⟩
  · exact ⟨fun _ => by grind, fun _ => by decide⟩
  · exact ⟨fun _ => by grind, fun _ => by decide⟩
  · exact ⟨fun x => absurd x (by decide), fun x => by grind⟩
theorem along_side (ax ay bx by' t : Rat) : sideQ ax ay bx by' (ax + t * (bx - ax)) (ay + t * (by' - ay)) = 0 := by
  unfold sideQ; rw [qcmp_zero]; grind
theorem along_dist (ax ay bx by' t : Rat) : distQ ax ay (ax + t * (bx - ax)) (ay + t * (by' - ay)) = t * t * distQ ax ay bx by' := by unfold distQ; grind
theorem along_back (a b t : Rat) : b + (1 - t) * (a - b) = a + t * (b - a) := by grind
theorem within_in {a b t : Rat} (h0 : 0 ≤ t) (h1 : t ≤ 1) : withinQ (a + t * (b - a)) a b = true := by
  rw [within_iff]
  by_cases h : a ≤ b
  · left
    have k1 := Rat.mul_nonneg h0 (show 0 ≤ b - a by grind)
    have k2 := Rat.mul_nonneg (show 0 ≤ 1 - t by grind) (show 0 ≤ b - a by grind)
    exact ⟨by grind, by grind⟩
  · right
    have k1 := Rat.mul_nonneg h0 (show 0 ≤ a - b by grind)
    have k2 := Rat.mul_nonneg (show 0 ≤ 1 - t by grind) (show 0 ≤ a - b by grind)
    exact ⟨by grind, by grind⟩
theorem within_out {a b t : Rat} (h : ¬ (0 ≤ t ∧ t ≤ 1)) (hne : a ≠ b) : withinQ (a + t * (b - a)) a b = false := by
  cases hw : withinQ (a + t * (b - a)) a b with
  | false => rfl
  | true =>
    exfalso
    rw [within_iff] at hw
    by_cases h0 : 0 ≤ t
    · have h1 : 1 < t := by grind
      rcases (show a < b ∨ b < a by grind) with k | k
      · have := Rat.mul_pos (show 0 < t - 1 by grind) (show 0 < b - a by grind); grind
      · have := Rat.mul_pos (show 0 < t - 1 by grind) (show 0 < a - b by grind); grind
    · rcases (show a < b ∨ b < a by grind) with k | k
      · have := Rat.mul_pos (show 0 < -t by grind) (show 0 < b - a by grind); grind
      · have := Rat.mul_pos (show 0 < -t by grind) (show 0 < a - b by grind); grind
theorem along_on {ax ay bx by' t : Rat} (b : Bool) (h : b = true ↔ (0 ≤ t ∧ t ≤ 1) ∨ (ax = bx ∧ ay = by')) : onQ (ax + t * (bx - ax)) (ay + t * (by' - ay)) ax ay bx by' = b := by
  unfold onQ
  rw [along_side, show ((0 : Int) == 0) = true from rfl, Bool.and_true]
  by_cases h1 : 0 ≤ t ∧ t ≤ 1
  · rw [within_in h1.1 h1.2, within_in h1.1 h1.2]; exact (h.2 (.inl h1)).symm
  · by_cases hx : ax = bx
    · subst hx
      have e : withinQ (ax + t * (ax - ax)) ax ax = true := by rw [within_iff]; grind
      rw [e, Bool.true_and]
      by_cases hy : ay = by'
      · subst hy
        have e : withinQ (ay + t * (ay - ay)) ay ay = true := by rw [within_iff]; grind
        rw [e]; exact (h.2 (.inr ⟨rfl, rfl⟩)).symm
      · rw [within_out h1 hy]
        cases b with
        | false => rfl
        | true => rcases h.1 rfl with k | k
                  · exact absurd k h1
                  · exact absurd k.2 hy
    · rw [within_out h1 hx, Bool.false_and]
      cases b with
      | false => rfl
      | true => rcases h.1 rfl with k | k
                · exact absurd k h1
                · exact absurd k.1 hx
theorem onQ_back (sx sy ax ay bx by' : Rat) : onQ sx sy bx by' ax ay = onQ sx sy ax ay bx by' := by
  have e : ∀ n a b : Rat, withinQ n b a = withinQ n a b := fun n a b => by rw [Bool.eq_iff_iff, within_iff, within_iff]; grind
  unfold onQ
  rw [e sx, e sy]
  congr 1
  rw [Bool.eq_iff_iff]
  simp only [beq_iff_eq]
  unfold sideQ
  rw [qcmp_zero, qcmp_zero]
  grind
/-- The centre's coordinates. -/
def cxN (a0 a1 b0 b1 v0 v1 : Int) : Int := sqd a0 a1 b0 b1 * (v1 - a1) - sqd a0 a1 v0 v1 * (b1 - a1)
def cyN (a0 a1 b0 b1 v0 v1 : Int) : Int := sqd a0 a1 v0 v1 * (b0 - a0) - sqd a0 a1 b0 b1 * (v0 - a0)
def cx (a0 a1 b0 b1 v0 v1 : Int) : Rat := (a0 : Rat) + ((cxN a0 a1 b0 b1 v0 v1 : Int) : Rat) / ((crs a0 a1 b0 b1 v0 v1 + crs a0 a1 b0 b1 v0 v1 : Int) : Rat)
def cy (a0 a1 b0 b1 v0 v1 : Int) : Rat := (a1 : Rat) + ((cyN a0 a1 b0 b1 v0 v1 : Int) : Rat) / ((crs a0 a1 b0 b1 v0 v1 + crs a0 a1 b0 b1 v0 v1 : Int) : Rat)
theorem cx_mul {a0 a1 b0 b1 v0 v1 : Int} (h : crs a0 a1 b0 b1 v0 v1 ≠ 0) : (cx a0 a1 b0 b1 v0 v1 - a0) * ((crs a0 a1 b0 b1 v0 v1 + crs a0 a1 b0 b1 v0 v1 : Int) : Rat) = ((cxN a0 a1 b0 b1 v0 v1 : Int) : Rat) := by
  unfold cx
  rw [show ∀ x y : Rat, x + y - x = y by intros; grind]
  exact Rat.div_mul_cancel (ic_ne (by omega))
theorem cy_mul {a0 a1 b0 b1 v0 v1 : Int} (h : crs a0 a1 b0 b1 v0 v1 ≠ 0) : (cy a0 a1 b0 b1 v0 v1 - a1) * ((crs a0 a1 b0 b1 v0 v1 + crs a0 a1 b0 b1 v0 v1 : Int) : Rat) = ((cyN a0 a1 b0 b1 v0 v1 : Int) : Rat) := by
  unfold cy
  rw [show ∀ x y : Rat, x + y - x = y by intros; grind]
  exact Rat.div_mul_cancel (ic_ne (by omega))
theorem mul_cancel {p q d : Rat} (hd : d ≠ 0) (h : p * d = q * d) : p = q := by
  have : p * d / d = q * d / d := by rw [h]
  rwa [Rat.mul_div_cancel hd, Rat.mul_div_cancel hd] at this
theorem centre_line {x y d u0 u1 v0 v1 X Y : Rat} (hd : d + d ≠ 0) (h1 : x * (d + d) = X) (h2 : y * (d + d) = Y) (e : d = u0 * v1 - u1 * v0) (eX : X = (u0 * u0 + u1 * u1) * v1 - (v0 * v0 + v1 * v1) * u1) (eY : Y = (v0 * v0 + v1 * v1) * u0 - (u0 * u0 + u1 * u1) * v0) :
    x * u0 + x * u0 + (y * u1 + y * u1) = u0 * u0 + u1 * u1 ∧ x * v0 + x * v0 + (y * v1 + y * v1) = v0 * v0 + v1 * v1 := by
  have hd2 : d ≠ 0 := by grind
  constructor
  · apply mul_cancel hd2
    have : (x * u0 + x * u0 + (y * u1 + y * u1)) * d = X * u0 + Y * u1 := by rw [← h1, ← h2]; grind
    rw [this, eX, eY, e]; grind
  · apply mul_cancel hd2
    have : (x * v0 + x * v0 + (y * v1 + y * v1)) * d = X * v0 + Y * v1 := by rw [← h1, ← h2]; grind
    rw [this, eX, eY, e]; grind
theorem centre_far {a0 a1 b0 b1 v0 v1 : Int} (h : crs a0 a1 b0 b1 v0 v1 ≠ 0) :
    distQ (cx a0 a1 b0 b1 v0 v1) (cy a0 a1 b0 b1 v0 v1) a0 a1 = distQ (cx a0 a1 b0 b1 v0 v1) (cy a0 a1 b0 b1 v0 v1) b0 b1 ∧ distQ (cx a0 a1 b0 b1 v0 v1) (cy a0 a1 b0 b1 v0 v1) a0 a1 = distQ (cx a0 a1 b0 b1 v0 v1) (cy a0 a1 b0 b1 v0 v1) v0 v1 := by
  have h1 := cx_mul h
  have h2 := cy_mul h
  have hd := ic_ne (show crs a0 a1 b0 b1 v0 v1 + crs a0 a1 b0 b1 v0 v1 ≠ 0 by omega)
  rw [ic_add] at h1 h2 hd
  have := centre_line (u0 := (b0 : Rat) - a0) (u1 := (b1 : Rat) - a1) (v0 := (v0 : Rat) - a0) (v1 := (v1 : Rat) - a1) hd h1 h2 (crs_q _ _ _ _ _ _) (by unfold cxN; simp only [ic_sub, ic_mul, sqd_q]) (by unfold cyN; simp only [ic_sub, ic_mul, sqd_q])
  obtain ⟨k1, k2⟩ := this
  unfold distQ
  generalize cx a0 a1 b0 b1 v0 v1 = x at *
  generalize cy a0 a1 b0 b1 v0 v1 = y at *
  exact ⟨by grind, by grind⟩
theorem centre_same {a0 a1 b0 b1 v0 v1 c0 c1 d0 d1 e0 e1 : Int} (h : crs a0 a1 b0 b1 v0 v1 ≠ 0) (hc : crs c0 c1 d0 d1 e0 e1 = crs a0 a1 b0 b1 v0 v1) {k : Rat} {m : Int}
    (hk : ((c0 * (crs a0 a1 b0 b1 v0 v1 + crs a0 a1 b0 b1 v0 v1) + cxN c0 c1 d0 d1 e0 e1 : Int) : Rat) = ((m : Int) : Rat)) (hm : ((m : Int) : Rat) = k * ((crs a0 a1 b0 b1 v0 v1 + crs a0 a1 b0 b1 v0 v1 : Int) : Rat)) : cx c0 c1 d0 d1 e0 e1 = k := by
  have h1 := cx_mul (a0 := c0) (a1 := c1) (b0 := d0) (b1 := d1) (v0 := e0) (v1 := e1) (by rw [hc]; exact h)
  have hd := ic_ne (show crs a0 a1 b0 b1 v0 v1 + crs a0 a1 b0 b1 v0 v1 ≠ 0 by omega)
  rw [hc] at h1
  apply mul_cancel hd
  rw [← hm, ← hk, ic_add (c0 * _), ic_mul c0, ← h1]
  generalize ((crs a0 a1 b0 b1 v0 v1 + crs a0 a1 b0 b1 v0 v1 : Int) : Rat) = D at *
  grind
theorem centre_same' {a0 a1 b0 b1 v0 v1 c0 c1 d0 d1 e0 e1 : Int} (h : crs a0 a1 b0 b1 v0 v1 ≠ 0) (hc : crs c0 c1 d0 d1 e0 e1 = crs a0 a1 b0 b1 v0 v1) {k : Rat} {m : Int}
    (hk : ((c1 * (crs a0 a1 b0 b1 v0 v1 + crs a0 a1 b0 b1 v0 v1) + cyN c0 c1 d0 d1 e0 e1 : Int) : Rat) = ((m : Int) : Rat)) (hm : ((m : Int) : Rat) = k * ((crs a0 a1 b0 b1 v0 v1 + crs a0 a1 b0 b1 v0 v1 : Int) : Rat)) : cy c0 c1 d0 d1 e0 e1 = k := by
  have h1 := cy_mul (a0 := c0) (a1 := c1) (b0 := d0) (b1 := d1) (v0 := e0) (v1 := e1) (by rw [hc]; exact h)
  have hd := ic_ne (show crs a0 a1 b0 b1 v0 v1 + crs a0 a1 b0 b1 v0 v1 ≠ 0 by omega)
  rw [hc] at h1
  apply mul_cancel hd
  rw [← hm, ← hk, ic_add (c1 * _), ic_mul c1, ← h1]
  generalize ((crs a0 a1 b0 b1 v0 v1 + crs a0 a1 b0 b1 v0 v1 : Int) : Rat) = D at *
  grind
theorem cx_cyc {a0 a1 b0 b1 v0 v1 : Int} (h : crs a0 a1 b0 b1 v0 v1 ≠ 0) : cx v0 v1 a0 a1 b0 b1 = cx a0 a1 b0 b1 v0 v1 := by
  refine centre_same h (by unfold crs; grind) (m := a0 * (crs a0 a1 b0 b1 v0 v1 + crs a0 a1 b0 b1 v0 v1) + cxN a0 a1 b0 b1 v0 v1) (congrArg _ (by unfold cxN sqd crs; grind)) ?_
  rw [ic_add (a0 * _), ic_mul a0, ← cx_mul h]
  generalize ((crs a0 a1 b0 b1 v0 v1 + crs a0 a1 b0 b1 v0 v1 : Int) : Rat) = D at *
  grind
theorem cy_cyc {a0 a1 b0 b1 v0 v1 : Int} (h : crs a0 a1 b0 b1 v0 v1 ≠ 0) : cy v0 v1 a0 a1 b0 b1 = cy a0 a1 b0 b1 v0 v1 := by
  refine centre_same' h (by unfold crs; grind) (m := a1 * (crs a0 a1 b0 b1 v0 v1 + crs a0 a1 b0 b1 v0 v1) + cyN a0 a1 b0 b1 v0 v1) (congrArg _ (by unfold cyN sqd crs; grind)) ?_
  rw [ic_add (a1 * _), ic_mul a1, ← cy_mul h]
  generalize ((crs a0 a1 b0 b1 v0 v1 + crs a0 a1 b0 b1 v0 v1 : Int) : Rat) = D at *
  grind
/-- The centre of points that are moved, and turned by a right angle. -/
theorem crs_turn (a0 a1 b0 b1 v0 v1 x y : Int) : crs (x - a1) (y + a0) (x - b1) (y + b0) (x - v1) (y + v0) = crs a0 a1 b0 b1 v0 v1 := by unfold crs; grind
theorem cx_turn {a0 a1 b0 b1 v0 v1 : Int} (x y : Int) (h : crs a0 a1 b0 b1 v0 v1 ≠ 0) : cx (x - a1) (y + a0) (x - b1) (y + b0) (x - v1) (y + v0) = (x : Rat) - cy a0 a1 b0 b1 v0 v1 := by
  refine centre_same h (crs_turn ..) (m := (x - a1) * (crs a0 a1 b0 b1 v0 v1 + crs a0 a1 b0 b1 v0 v1) - cyN a0 a1 b0 b1 v0 v1) (congrArg _ (by unfold cxN cyN sqd crs; grind)) ?_
  rw [ic_sub (_ * _), ic_mul (x - a1), ic_sub x, ← cy_mul h]
  generalize ((crs a0 a1 b0 b1 v0 v1 + crs a0 a1 b0 b1 v0 v1 : Int) : Rat) = D at *
  grind
theorem cy_turn {a0 a1 b0 b1 v0 v1 : Int} (x y : Int) (h : crs a0 a1 b0 b1 v0 v1 ≠ 0) : cy (x - a1) (y + a0) (x - b1) (y + b0) (x - v1) (y + v0) = (y : Rat) + cx a0 a1 b0 b1 v0 v1 := by
  refine centre_same' h (crs_turn ..) (m := (y + a0) * (crs a0 a1 b0 b1 v0 v1 + crs a0 a1 b0 b1 v0 v1) + cxN a0 a1 b0 b1 v0 v1) (congrArg _ (by unfold cxN cyN sqd crs; grind)) ?_
  rw [ic_add (_ * _), ic_mul (y + a0), ic_add y, ← cx_mul h]
  generalize ((crs a0 a1 b0 b1 v0 v1 + crs a0 a1 b0 b1 v0 v1 : Int) : Rat) = D at *
  grind
/-- Twice a polygon's area. -/
def termQ (l : List (Rat × Rat)) (i : Nat) : Rat := (l.getD i (0, 0)).1 * (l.getD ((i + 1) % l.length) (0, 0)).2 - (l.getD i (0, 0)).2 * (l.getD ((i + 1) % l.length) (0, 0)).1
def areaQ (l : List (Rat × Rat)) : Rat := ((List.range l.length).map (termQ l)).foldl (· + ·) 0
theorem areaQ_three (ax ay bx by' vx vy : Rat) : areaQ [(ax, ay), (bx, by'), (vx, vy)] = (ax * by' - ay * bx) + (bx * vy - by' * vx) + (vx * ay - vy * ax) := by
  simp [areaQ, termQ, List.range, List.range.loop, Rat.zero_add]
theorem areaQ_crs (a0 a1 b0 b1 v0 v1 : Int) : areaQ [((a0 : Rat), (a1 : Rat)), ((b0 : Rat), (b1 : Rat)), ((v0 : Rat), (v1 : Rat))] = ((crs a0 a1 b0 b1 v0 v1 : Int) : Rat) := by
  rw [areaQ_three, crs_q]; grind
/-- Shares. -/
theorem shares_sum {ax ay bx by' vx vy sx sy D : Rat} (hD : D ≠ 0) (h : areaQ [(ax, ay), (bx, by'), (vx, vy)] = D) :
    areaQ [(sx, sy), (bx, by'), (vx, vy)] / D + areaQ [(ax, ay), (sx, sy), (vx, vy)] / D + areaQ [(ax, ay), (bx, by'), (sx, sy)] / D = 1 := by
  apply mul_cancel hD
  rw [Rat.add_mul, Rat.add_mul, Rat.div_mul_cancel hD, Rat.div_mul_cancel hD, Rat.div_mul_cancel hD, Rat.one_mul, ← h]
  simp only [areaQ_three]; grind
theorem shares_x {ax ay bx by' vx vy sx sy D : Rat} (hD : D ≠ 0) (h : areaQ [(ax, ay), (bx, by'), (vx, vy)] = D) :
    areaQ [(sx, sy), (bx, by'), (vx, vy)] / D * ax + areaQ [(ax, ay), (sx, sy), (vx, vy)] / D * bx + areaQ [(ax, ay), (bx, by'), (sx, sy)] / D * vx = sx := by
  apply mul_cancel hD
  have e : ∀ p q : Rat, p / D * q * D = p * q := fun p q => by rw [Rat.mul_assoc, Rat.mul_comm q, ← Rat.mul_assoc, Rat.div_mul_cancel hD]
  rw [Rat.add_mul, Rat.add_mul, e, e, e, ← h]
  simp only [areaQ_three]; grind
theorem shares_y {ax ay bx by' vx vy sx sy D : Rat} (hD : D ≠ 0) (h : areaQ [(ax, ay), (bx, by'), (vx, vy)] = D) :
    areaQ [(sx, sy), (bx, by'), (vx, vy)] / D * ay + areaQ [(ax, ay), (sx, sy), (vx, vy)] / D * by' + areaQ [(ax, ay), (bx, by'), (sx, sy)] / D * vy = sy := by
  apply mul_cancel hD
  have e : ∀ p q : Rat, p / D * q * D = p * q := fun p q => by rw [Rat.mul_assoc, Rat.mul_comm q, ← Rat.mul_assoc, Rat.div_mul_cancel hD]
  rw [Rat.add_mul, Rat.add_mul, e, e, e, ← h]
  simp only [areaQ_three]; grind
/-- Points made so many times as great. -/
theorem qcmp_sub (p q : Rat) : qcmp p q = qcmp (p - q) 0 := by
  rcases qcmp_cases p q with ⟨h, e⟩ | ⟨h, e⟩ | ⟨h, e⟩ <;> rw [e]
  · exact (qcmp_lt (by grind)).symm
  · exact (qcmp_zero.2 (by grind)).symm
  · exact (qcmp_gt (by grind)).symm
theorem qcmp_int (z : Int) : qcmp (z : Rat) 0 = z.sign := by
  rcases Int.lt_trichotomy z 0 with h | h | h
  · rw [Int.sign_eq_neg_one_of_neg h]; exact qcmp_lt (Rat.intCast_lt_intCast.2 h)
  · subst h; exact qcmp_self _
  · rw [Int.sign_eq_one_of_pos h]; exact qcmp_gt (Rat.intCast_lt_intCast.2 h)
theorem qcmp_times {k : Rat} (hk : 0 < k) (p q : Rat) : qcmp (k * p) (k * q) = qcmp p q := by
  rcases qcmp_cases p q with ⟨h, e⟩ | ⟨h, e⟩ | ⟨h, e⟩ <;> rw [e]
  · exact qcmp_lt ((Rat.mul_lt_mul_left hk).2 h)
  · subst h; exact qcmp_self _
  · exact qcmp_gt ((Rat.mul_lt_mul_left hk).2 h)
theorem side_times {k : Rat} (hk : 0 < k) (a0 a1 b0 b1 v0 v1 : Int) : sideQ (k * a0) (k * a1) (k * b0) (k * b1) (k * v0) (k * v1) = (crs a0 a1 b0 b1 v0 v1).sign := by
  unfold sideQ
  rw [show (k * (b0 : Rat) - k * a0) * (k * (v1 : Rat) - k * a1) = (k * k) * (((b0 : Rat) - a0) * ((v1 : Rat) - a1)) by grind, show (k * (b1 : Rat) - k * a1) * (k * (v0 : Rat) - k * a0) = (k * k) * (((b1 : Rat) - a1) * ((v0 : Rat) - a0)) by grind,
    qcmp_times (Rat.mul_pos hk hk), qcmp_sub, ← crs_q, qcmp_int]
theorem within_times {k : Rat} (hk : 0 < k) (n a b : Int) : withinQ (k * n) (k * a) (k * b) = decide (min a b ≤ n ∧ n ≤ max a b) := by
  rw [Bool.eq_iff_iff, within_iff, decide_eq_true_iff]
  have e : ∀ x y : Int, k * (x : Rat) ≤ k * (y : Rat) ↔ x ≤ y := fun x y => by rw [← Rat.not_lt, Rat.mul_lt_mul_left hk, Rat.intCast_lt_intCast]; omega
  rw [e, e, e, e]
  omega
theorem on_times {k : Rat} (hk : 0 < k) (s0 s1 a0 a1 b0 b1 : Int) : onQ (k * s0) (k * s1) (k * a0) (k * a1) (k * b0) (k * b1) = onP s0 s1 a0 a1 b0 b1 := by
  unfold onQ onP
  rw [within_times hk, within_times hk, side_times hk, Bool.eq_iff_iff]
  simp only [Bool.and_eq_true, decide_eq_true_iff, beq_iff_eq]
  rw [Int.sign_eq_zero_iff_zero]
  exact ⟨fun h => ⟨⟨h.2, h.1.1⟩, h.1.2⟩, fun h => ⟨⟨h.1.2, h.2⟩, h.1.1⟩⟩
theorem dist_int (a0 a1 b0 b1 : Int) : distQ a0 a1 b0 b1 = ((sqd a0 a1 b0 b1 : Int) : Rat) := (sqd_q ..).symm
end Go.Proofs.Ytdfabocecpcmcaa
/- Slices of Spots, rows of Fracs that grow. Over any program. -/
namespace Go.MagM
open Go.RowKit
/-- The slice at ao reads as points; each coordinate has at most L words. -/
def Spots (w : World) (ao : Option Addr) (L : Nat) (l : List (Rat × Rat)) : Prop :=
  ∀ i x y, l[i]? = some (x, y) → ∃ b o m so sn sc tp tn tc m' so' sn' sc' tp' tn' tc', ao = some ⟨b, o, none⟩ ∧ w.cell? ⟨b, o + i * 6, none⟩ = some (.bool m) ∧ w.cell? ⟨b, o + i * 6 + 1, none⟩ = some (.slice so sn sc) ∧ w.cell? ⟨b, o + i * 6 + 2, none⟩ = some (.slice tp tn tc) ∧
    w.cell? ⟨b, o + i * 6 + 3, none⟩ = some (.bool m') ∧ w.cell? ⟨b, o + i * 6 + 4, none⟩ = some (.slice so' sn' sc') ∧ w.cell? ⟨b, o + i * 6 + 5, none⟩ = some (.slice tp' tn' tc') ∧
    FQ w (.agg #[.bool m, .slice so sn sc, .slice tp tn tc]) L x ∧ FQ w (.agg #[.bool m', .slice so' sn' sc', .slice tp' tn' tc']) L y
theorem Spots.below {w w' : World} {ao : Option Addr} {L : Nat} {l : List (Rat × Rat)} (h : Spots w ao L l) (hb : Below w.heap.size w w') : Spots w' ao L l := by
  intro i x y hi
  obtain ⟨b, o, m, so, sn, sc, tp, tn, tc, m', so', sn', sc', tp', tn', tc', h0, h1, h2, h3, h4, h5, h6, h7, h8⟩ := h i x y hi
  have hlt := World.block_lt_of_cell? w _ h1
  exact ⟨b, o, m, so, sn, sc, tp, tn, tc, m', so', sn', sc', tp', tn', tc', h0, (hb.cell (p := ⟨b, o + i * 6, none⟩) hlt).trans h1, (hb.cell (p := ⟨b, o + i * 6 + 1, none⟩) hlt).trans h2, (hb.cell (p := ⟨b, o + i * 6 + 2, none⟩) hlt).trans h3,
    (hb.cell (p := ⟨b, o + i * 6 + 3, none⟩) hlt).trans h4, (hb.cell (p := ⟨b, o + i * 6 + 4, none⟩) hlt).trans h5, (hb.cell (p := ⟨b, o + i * 6 + 5, none⟩) hlt).trans h6, h7.below hb, h8.below hb⟩
theorem Spots.drew {w : World} {ao : Option Addr} {L : Nat} {l : List (Rat × Rat)} (h : Spots w ao L l) : Spots w.drew ao L l := h
/-- Six cells hold these values. -/
structure At6 (w : World) (b o : Nat) (v0 v1 v2 v3 v4 v5 : Value) : Prop where
  c0 : w.cell? ⟨b, o, none⟩ = some v0
  c1 : w.cell? ⟨b, o + 1, none⟩ = some v1
  c2 : w.cell? ⟨b, o + 2, none⟩ = some v2
  c3 : w.cell? ⟨b, o + 3, none⟩ = some v3
  c4 : w.cell? ⟨b, o + 4, none⟩ = some v4
  c5 : w.cell? ⟨b, o + 5, none⟩ = some v5
theorem At6.below {w w' : World} {b o : Nat} {v0 v1 v2 v3 v4 v5 : Value} (h : At6 w b o v0 v1 v2 v3 v4 v5) (hb : Below w.heap.size w w') : At6 w' b o v0 v1 v2 v3 v4 v5 := by
  have hlt := World.block_lt_of_cell? w _ h.c0
  exact ⟨(hb.cell (p := ⟨b, o, none⟩) hlt).trans h.c0, (hb.cell (p := ⟨b, o + 1, none⟩) hlt).trans h.c1, (hb.cell (p := ⟨b, o + 2, none⟩) hlt).trans h.c2, (hb.cell (p := ⟨b, o + 3, none⟩) hlt).trans h.c3, (hb.cell (p := ⟨b, o + 4, none⟩) hlt).trans h.c4, (hb.cell (p := ⟨b, o + 5, none⟩) hlt).trans h.c5⟩
theorem At6.drew {w : World} {b o : Nat} {v0 v1 v2 v3 v4 v5 : Value} (h : At6 w b o v0 v1 v2 v3 v4 v5) : At6 w.drew b o v0 v1 v2 v3 v4 v5 := ⟨h.c0, h.c1, h.c2, h.c3, h.c4, h.c5⟩
/-- Cells that are Fracs, three each. -/
def Fr (w : World) (L : Nat) (xs : List Value) (l : List Rat) : Prop :=
  ∀ i q, l[i]? = some q → ∃ m so sn sc tp tn tc, xs[i * 3]? = some (.bool m) ∧ xs[i * 3 + 1]? = some (.slice so sn sc) ∧ xs[i * 3 + 2]? = some (.slice tp tn tc) ∧ RF w (.agg #[.bool m, .slice so sn sc, .slice tp tn tc]) L q
theorem Fr.below {w w' : World} {L : Nat} {xs : List Value} {l : List Rat} (h : Fr w L xs l) (hb : Below w.heap.size w w') : Fr w' L xs l := fun i q hi => by
  obtain ⟨m, so, sn, sc, tp, tn, tc, h1, h2, h3, h4⟩ := h i q hi; exact ⟨m, so, sn, sc, tp, tn, tc, h1, h2, h3, h4.below hb⟩
theorem Fr.kept {w w' : World} {L : Nat} {xs : List Value} {l : List Rat} (h : Fr w L xs l) (hb : Kept w w') : Fr w' L xs l := fun i q hi => by
  obtain ⟨m, so, sn, sc, tp, tn, tc, h1, h2, h3, h4⟩ := h i q hi; exact ⟨m, so, sn, sc, tp, tn, tc, h1, h2, h3, h4.kept hb⟩
theorem Fr.drew {w : World} {L : Nat} {xs : List Value} {l : List Rat} (h : Fr w L xs l) : Fr w.drew L xs l := h
theorem Fr.nil (w : World) (L : Nat) : Fr w L [] [] := fun i q hi => by simp at hi
theorem Fr.snoc {w : World} {L : Nat} {xs : List Value} {l : List Rat} (h : Fr w L xs l) (hl : xs.length = l.length * 3) {m : Bool} {so : Option Addr} {sn sc : Nat} {tp : Option Addr} {tn tc : Nat} {q : Rat} (hq : RF w (.agg #[.bool m, .slice so sn sc, .slice tp tn tc]) L q) :
    Fr w L (xs ++ [.bool m, .slice so sn sc, .slice tp tn tc]) (l ++ [q]) := by
  intro i p hi
  by_cases hlt : i < l.length
  · rw [List.getElem?_append_left hlt] at hi
    obtain ⟨m, so, sn, sc, tp, tn, tc, h1, h2, h3, h4⟩ := h i p hi
    refine ⟨m, so, sn, sc, tp, tn, tc, ?_, ?_, ?_, h4⟩
    · rw [List.getElem?_append_left (by omega)]; exact h1
    · rw [List.getElem?_append_left (by omega)]; exact h2
    · rw [List.getElem?_append_left (by omega)]; exact h3
  · have hi' := (List.getElem?_eq_some_iff.1 hi).1
    simp at hi'
    obtain rfl : i = l.length := by omega
    rw [List.getElem?_append_right (by omega)] at hi
    simp at hi; subst hi
    refine ⟨m, so, sn, sc, tp, tn, tc, ?_, ?_, ?_, hq⟩
    · rw [← hl, List.getElem?_append_right (by omega), Nat.sub_self]; rfl
    · rw [← hl, List.getElem?_append_right (by omega), Nat.add_sub_cancel_left]; rfl
    · rw [← hl, List.getElem?_append_right (by omega), Nat.add_sub_cancel_left]; rfl
/-- Such a row is a slice of Fracs. -/
theorem Fr.fracs {w : World} {base : Nat} {e : TypeId} {v : Value} {n L : Nat} {xs : List Value} {l : List Rat} (h : Fr w L xs l) (hr : RowN w base e 3 v n xs) (hl : l.length = n) :
    ∃ ao c, v = .slice ao n c ∧ Fracs w ao (l.map (fun q => (L, q.num, q.den))) := by
  rcases hr.2 with ⟨rfl, rfl⟩ | ⟨g, cap, cur, rfl, _⟩
  · obtain rfl := List.length_eq_zero_iff.1 hl
    exact ⟨_, _, rfl, fun i L X D hi => by simp at hi⟩
  · refine ⟨_, _, rfl, fun i L' X D hi => ?_⟩
    rw [List.getElem?_map, Option.map_eq_some_iff] at hi
    obtain ⟨q, hq, he⟩ := hi
    simp at he
    obtain ⟨rfl, rfl, rfl⟩ := he
    obtain ⟨m, so, sn, sc, tp, tn, tc, h1, h2, h3, h4⟩ := h i q hq
    refine ⟨g, 0, m, so, sn, sc, tp, tn, tc, rfl, ?_, ?_, ?_, h4.fd⟩
    · rw [Nat.zero_add]; exact hr.cells rfl _ _ h1
    · rw [Nat.zero_add]; exact hr.cells rfl _ _ h2
    · rw [Nat.zero_add]; exact hr.cells rfl _ _ h3
theorem fVal_map (L : Nat) (l : List Rat) : fVal (l.map (fun q => (L, q.num, q.den))) = l.foldl (· + ·) 0 := by
  unfold fVal
  rw [List.map_map]
  congr 1
  exact (List.map_congr_left (fun q _ => qv_self q)).trans (List.map_id l)
theorem fLen_map (L : Nat) (l : List Rat) : fLen (l.map (fun q => (L, q.num, q.den))) = 1 + l.length * (L + 2) := by
  unfold fLen
  rw [List.map_map]
  have : ∀ (l : List Rat) (a : Nat), (l.map ((fun a : Nat × Int × Nat => a.1 + 2) ∘ fun q : Rat => (L, q.num, q.den))).foldl (· + ·) a = a + l.length * (L + 2) := by
    intro l
    induction l with
    | nil => intro a; simp
    | cons x l ih => intro a; rw [List.map_cons, List.foldl_cons, ih]; simp only [Function.comp, List.length_cons, Nat.add_mul]; omega
  exact this l 1
end Go.MagM
namespace Go.Proofs.Ytdfabocecpcmcaa
open Go.MagM
/-- The terms of a polygon's area. -/
def termsQ (l : List (Rat × Rat)) : List Rat := (List.range l.length).map (termQ l)
theorem termsQ_len (l : List (Rat × Rat)) : (termsQ l).length = l.length := by simp [termsQ]
theorem termsQ_take {l : List (Rat × Rat)} {k : Nat} (hk : k < l.length) : (termsQ l).take (k + 1) = (termsQ l).take k ++ [termQ l k] := by
  rw [List.take_succ_eq_append_getElem (by rw [termsQ_len]; exact hk)]
  simp [termsQ]
theorem termQ_at {l : List (Rat × Rat)} {k : Nat} {x y x' y' : Rat} (h : l[k]? = some (x, y)) (h' : l[(k + 1) % l.length]? = some (x', y')) : termQ l k = x * y' - y * x' := by
  unfold termQ
  rw [List.getD_eq_getElem?_getD, List.getD_eq_getElem?_getD, h, h']
  rfl
end Go.Proofs.Ytdfabocecpcmcaa
/- The helpers of layer 3's statements: short. -/
namespace Go.Proofs.Ytdfabocecpcmcaa
open Go.RowKit Go.MagM
def FRow (w : World) (g k : Nat) (mf : Nat → Bool) (af : Nat → Option Addr) (nf cf : Nat → Nat) (pf : Nat → Option Addr) (kf df : Nat → Nat) : Prop :=
  ∀ i, i < k → w.cell? ⟨g, i * 3, none⟩ = some (.bool (mf i)) ∧ w.cell? ⟨g, i * 3 + 1, none⟩ = some (.slice (af i) (nf i) (cf i)) ∧ w.cell? ⟨g, i * 3 + 2, none⟩ = some (.slice (pf i) (kf i) (df i))
theorem FRow.below {w w' : World} {g k : Nat} {mf : Nat → Bool} {af : Nat → Option Addr} {nf cf : Nat → Nat} {pf : Nat → Option Addr} {kf df : Nat → Nat} (h : FRow w g k mf af nf cf pf kf df) (hb : Below w.heap.size w w') : FRow w' g k mf af nf cf pf kf df := by
  intro i hi
  obtain ⟨h1, h2, h3⟩ := h i hi
  have hlt := World.block_lt_of_cell? w _ h1
  exact ⟨(hb.cell (p := ⟨g, i * 3, none⟩) hlt).trans h1, (hb.cell (p := ⟨g, i * 3 + 1, none⟩) hlt).trans h2, (hb.cell (p := ⟨g, i * 3 + 2, none⟩) hlt).trans h3⟩
theorem frow1_alloc (w : World) (T : TypeId) (xm : Bool) (xo : Option Addr) (xn xc : Nat) (xp : Option Addr) (xk xd : Nat) : FRow (w.alloc (.cells #[.bool xm, .slice xo xn xc, .slice xp xk xd] T)) w.heap.size 1 (fun _ => xm) (fun _ => xo) (fun _ => xn) (fun _ => xc) (fun _ => xp) (fun _ => xk) (fun _ => xd) := by
  intro i hi
  obtain rfl : i = 0 := by omega
  · exact ⟨by simp [go_sem], by simp [go_sem], by simp [go_sem]⟩
theorem frow2_alloc (w : World) (T : TypeId) (xm : Bool) (xo : Option Addr) (xn xc : Nat) (xp : Option Addr) (xk xd : Nat) (ym : Bool) (yo : Option Addr) (yn yc : Nat) (yp : Option Addr) (yk yd : Nat) : FRow (w.alloc (.cells #[.bool xm, .slice xo xn xc, .slice xp xk xd, .bool ym, .slice yo yn yc, .slice yp yk yd] T)) w.heap.size 2 (sel2 xm ym) (sel2 xo yo) (sel2 xn yn) (sel2 xc yc) (sel2 xp yp) (sel2 xk yk) (sel2 xd yd) := by
  intro i hi
  obtain rfl | rfl : i = 0 ∨ i = 1 := by omega
  · exact ⟨by simp [go_sem, sel2], by simp [go_sem, sel2], by simp [go_sem, sel2]⟩
  · exact ⟨by simp [go_sem, sel2], by simp [go_sem, sel2], by simp [go_sem, sel2]⟩
theorem frow3_alloc (w : World) (T : TypeId) (xm : Bool) (xo : Option Addr) (xn xc : Nat) (xp : Option Addr) (xk xd : Nat) (ym : Bool) (yo : Option Addr) (yn yc : Nat) (yp : Option Addr) (yk yd : Nat) (zm : Bool) (zo : Option Addr) (zn zc : Nat) (zp : Option Addr) (zk zd : Nat) : FRow (w.alloc (.cells #[.bool xm, .slice xo xn xc, .slice xp xk xd, .bool ym, .slice yo yn yc, .slice yp yk yd, .bool zm, .slice zo zn zc, .slice zp zk zd] T)) w.heap.size 3 (sel3 xm ym zm) (sel3 xo yo zo) (sel3 xn yn zn) (sel3 xc yc zc) (sel3 xp yp zp) (sel3 xk yk zk) (sel3 xd yd zd) := by
  intro i hi
  obtain rfl | rfl | rfl : i = 0 ∨ i = 1 ∨ i = 2 := by omega
  · exact ⟨by simp [go_sem, sel3], by simp [go_sem, sel3], by simp [go_sem, sel3]⟩
  · exact ⟨by simp [go_sem, sel3], by simp [go_sem, sel3], by simp [go_sem, sel3]⟩
  · exact ⟨by simp [go_sem, sel3], by simp [go_sem, sel3], by simp [go_sem, sel3]⟩
end Go.Proofs.Ytdfabocecpcmcaa
/- The helpers of layer 3's statements, on: below, Right, is, fit. -/
namespace Go.Proofs.Ytdfabocecpcmcaa
open Go.RowKit Go.MagM
theorem len_is (va : Value) (L X : Nat) (k : Int) (w : World) (hL : L ≤ 4000000000) (ha : Mag w va L X) (h : ((bl X : Nat) : Int) = k) : Calls Try.prog 58 #[va] w fun e w' => e = .returned (.int .i64 k) ∧ Below w.heap.size w w' :=
  (Len_any va L X w hL ha).mono fun e w' ⟨h1, h2⟩ => ⟨by rw [h1, h], by subst h2; exact Below.refl _ _⟩
theorem fiveHalves : (((10 : Int) : Rat) / ((4 : Int) : Rat)).num = 5 ∧ (((10 : Int) : Rat) / ((4 : Int) : Rat)).den = 2 := by
  have h := make_eq false false 10 4 (by omega)
  have e1 : sgn false 10 = 10 := rfl
  have e2 : sgn false 4 = 4 := rfl
  rw [e1, e2] at h
  rw [← h]
  have e3 : (false != false) = false := rfl
  rw [e3, e1, Rat.num_mkRat, Rat.den_mkRat]
  decide
theorem fiveHalves_den {w : World} {m : Bool} {ao bo : Option Addr} {n c k d L : Nat} (h : RF w (.agg #[.bool m, .slice ao n c, .slice bo k d]) L (((10 : Int) : Rat) / ((4 : Int) : Rat))) : RMag w (.slice bo k d) L 2 := by
  obtain ⟨_, _, _, _, _, _, _, e, h1, h2⟩ := h
  simp at e
  obtain ⟨rfl, ⟨rfl, rfl, rfl⟩, rfl, rfl, rfl⟩ := e
  rw [fiveHalves.2] at h2
  exact h2
theorem fiveHalves_num : icmp (((10 : Int) : Rat) / ((4 : Int) : Rat)).num 5 = 0 := by rw [fiveHalves.1]; exact icmp_self _
theorem fiveHalves_rnd : icmp (rnd (qv (((10 : Int) : Rat) / ((4 : Int) : Rat)).num (((10 : Int) : Rat) / ((4 : Int) : Rat)).den)) 2 = 0 := by
  rw [fiveHalves.1, fiveHalves.2, ← rnd_down 5 2 (Or.inr (by decide))]
  decide
end Go.Proofs.Ytdfabocecpcmcaa
/- The calls of frac, by the numbers that they count. -/
namespace Go.Proofs.Ytdfabocecpcmcaa
open Go.RowKit Go.MagM
theorem cross (q : Rat) (N : Int) (M : Nat) (hM : M ≠ 0) (h : q = mkRat N M) : q.num * (M : Int) = N * (q.den : Int) := by
  have h1 := Rat.mkRat_self q
  rw [h] at h1
  have h2 := (Rat.mkRat_eq_iff (mkRat N M).den_nz hM).1 h1
  rw [h]
  exact h2
theorem qv_sign (X : Int) (D : Nat) : (qv X D).num.sign = X.sign := by
  have h := cross (qv X D) X (den1 D) (den1_ne D) rfl
  have h2 := congrArg Int.sign h
  rw [sign_den, Int.sign_mul, Int.sign_natCast_of_ne_zero (qv X D).den_nz, Int.mul_one] at h2
  exact h2
theorem qAdd (va vb : Value) (L M : Nat) (p q : Rat) (w : World) (hL : L ≤ 50000000) (hM : M ≤ 50000000) (ha : FQ w va L p) (hb : FQ w vb M q) : Calls Try.prog 16 #[va, vb] w fun e w' => AnsF w w' e (L + M + 2) (p + q) := by
  obtain ⟨X, D, h1, rfl⟩ := ha
  obtain ⟨Y, E, h2, rfl⟩ := hb
  exact fAdd_any _ _ L M X Y D E w (by omega) (by omega) h1 h2
theorem qSub (va vb : Value) (L M : Nat) (p q : Rat) (w : World) (hL : L ≤ 50000000) (hM : M ≤ 50000000) (ha : FQ w va L p) (hb : FQ w vb M q) : Calls Try.prog 22 #[va, vb] w fun e w' => AnsF w w' e (L + M + 2) (p - q) := by
  obtain ⟨X, D, h1, rfl⟩ := ha
  obtain ⟨Y, E, h2, rfl⟩ := hb
  exact fSub_any _ _ L M X Y D E w (by omega) (by omega) h1 h2
theorem qMul (va vb : Value) (L M : Nat) (p q : Rat) (w : World) (hL : L ≤ 50000000) (hM : M ≤ 50000000) (ha : FQ w va L p) (hb : FQ w vb M q) : Calls Try.prog 23 #[va, vb] w fun e w' => AnsF w w' e (L + M + 2) (p * q) := by
  obtain ⟨X, D, h1, rfl⟩ := ha
  obtain ⟨Y, E, h2, rfl⟩ := hb
  exact fMul_any _ _ L M X Y D E w (by omega) (by omega) h1 h2
theorem qCmp (va vb : Value) (L M : Nat) (p q : Rat) (w : World) (hL : L ≤ 50000000) (hM : M ≤ 50000000) (ha : FQ w va L p) (hb : FQ w vb M q) (c : Int) (h : qcmp p q = c) : Calls Try.prog 26 #[va, vb] w fun e w' => e = .returned (.int .i64 c) ∧ Below w.heap.size w w' := by
  obtain ⟨X, D, h1, rfl⟩ := ha
  obtain ⟨Y, E, h2, rfl⟩ := hb
  exact fCmp_is _ _ L M X Y D E w (by omega) (by omega) h1 h2 c h
theorem qSame (va vb : Value) (L M : Nat) (p q : Rat) (w : World) (hL : L ≤ 50000000) (hM : M ≤ 50000000) (ha : FQ w va L p) (hb : FQ w vb M q) (b : Bool) (h : p = q ↔ b = true) : Calls Try.prog 15 #[va, vb] w fun e w' => e = .returned (.bool b) ∧ Below w.heap.size w w' := by
  obtain ⟨X, D, h1, rfl⟩ := ha
  obtain ⟨Y, E, h2, rfl⟩ := hb
  by_cases hq : qv X D = qv Y E
  · rw [h.1 hq]; exact fSame_yes _ _ L M X Y D E w (by omega) (by omega) h1 h2 hq
  · have hb : b = false := by cases b with
      | false => rfl
      | true => exact absurd (h.2 rfl) hq
    rw [hb]; exact fSame_no _ _ L M X Y D E w (by omega) (by omega) h1 h2 hq
theorem qSame_yes (va vb : Value) (L M : Nat) (p q : Rat) (w : World) (hL : L ≤ 50000000) (hM : M ≤ 50000000) (ha : FQ w va L p) (hb : FQ w vb M q) (h : p = q) : Calls Try.prog 15 #[va, vb] w fun e w' => e = .returned (.bool true) ∧ Below w.heap.size w w' := by
  obtain ⟨X, D, h1, rfl⟩ := ha
  obtain ⟨Y, E, h2, rfl⟩ := hb
  exact fSame_yes _ _ L M X Y D E w (by omega) (by omega) h1 h2 h
theorem qDiv_zero (va vb : Value) (L M : Nat) (p q : Rat) (w : World) (hL : L ≤ 50000000) (hM : M ≤ 50000000) (ha : FQ w va L p) (hb : FQ w vb M q) (h : q = 0) : Calls Try.prog 54 #[va, vb] w fun e w' => AnsFt w w' e false 1 0 := by
  obtain ⟨X, D, h1, rfl⟩ := ha
  obtain ⟨Y, E, h2, rfl⟩ := hb
  refine fDiv_zero _ _ L M X Y D E w (by omega) (by omega) h1 h2 ?_
  rw [qv] at h
  exact (Rat.mkRat_eq_zero (den1_ne E)).1 h
theorem qDiv (va vb : Value) (L M : Nat) (p q : Rat) (w : World) (hL : L ≤ 50000000) (hM : M ≤ 50000000) (ha : FQ w va L p) (hb : FQ w vb M q) (h : q ≠ 0) : Calls Try.prog 54 #[va, vb] w fun e w' => AnsFt w w' e true (L + M + 3) (p / q) := by
  obtain ⟨X, D, h1, rfl⟩ := ha
  obtain ⟨Y, E, h2, rfl⟩ := hb
  refine fDiv_some _ _ L M X Y D E w (by omega) (by omega) h1 h2 ?_
  intro hy
  subst hy
  exact h (qv_zero E)
theorem qNeg (va : Value) (L : Nat) (p : Rat) (w : World) (hL : L ≤ 50000000) (ha : FQ w va L p) : Calls Try.prog 33 #[va] w fun e w' => AnsF w w' e (max L 1) (-p) := by
  obtain ⟨X, D, h1, rfl⟩ := ha
  exact fNeg_any _ L X D w (by omega) h1
theorem qSign (va : Value) (L : Nat) (p : Rat) (w : World) (hL : L ≤ 50000000) (ha : FQ w va L p) (s : Int) (h : p.num.sign = s) : Calls Try.prog 18 #[va] w fun e w' => e = .returned (.int .i64 s) ∧ Below w.heap.size w w' := by
  obtain ⟨X, D, h1, rfl⟩ := ha
  exact fSign_is _ L X s D w (by omega) h1 (by rw [← qv_sign X D]; exact h)
theorem fracs_three (w : World) (T : TypeId) {xm : Bool} {xo : Option Addr} {xn xc : Nat} {xp : Option Addr} {xk xd : Nat} {ym : Bool} {yo : Option Addr} {yn yc : Nat} {yp : Option Addr} {yk yd : Nat} {zm : Bool} {zo : Option Addr} {zn zc : Nat} {zp : Option Addr} {zk zd : Nat} {L1 L2 L3 : Nat} {X Y Z : Int} {D E F : Nat} (h1 : FD w (.agg #[.bool xm, .slice xo xn xc, .slice xp xk xd]) L1 X D) (h2 : FD w (.agg #[.bool ym, .slice yo yn yc, .slice yp yk yd]) L2 Y E) (h3 : FD w (.agg #[.bool zm, .slice zo zn zc, .slice zp zk zd]) L3 Z F) :
    Fracs (w.alloc (.cells #[.bool xm, .slice xo xn xc, .slice xp xk xd, .bool ym, .slice yo yn yc, .slice yp yk yd, .bool zm, .slice zo zn zc, .slice zp zk zd] T)) (some ⟨w.heap.size, 0, none⟩) [(L1, X, D), (L2, Y, E), (L3, Z, F)] := by
  have hb : Below w.heap.size w (w.alloc (.cells #[.bool xm, .slice xo xn xc, .slice xp xk xd, .bool ym, .slice yo yn yc, .slice yp yk yd, .bool zm, .slice zo zn zc, .slice zp zk zd] T)) := (Below.refl _ _).alloc (Nat.le_refl _) _
  intro i L U G hi
  have hi2 : i < 3 := by have := (List.getElem?_eq_some_iff.1 hi).1; simpa using this
  obtain rfl | rfl | rfl : i = 0 ∨ i = 1 ∨ i = 2 := by omega
  · simp at hi; obtain ⟨rfl, rfl, rfl⟩ := hi
    exact ⟨_, 0, xm, xo, xn, xc, xp, xk, xd, rfl, by simp [go_sem], by simp [go_sem], by simp [go_sem], h1.below hb⟩
  · simp at hi; obtain ⟨rfl, rfl, rfl⟩ := hi
    exact ⟨_, 0, ym, yo, yn, yc, yp, yk, yd, rfl, by simp [go_sem], by simp [go_sem], by simp [go_sem], h2.below hb⟩
  · simp at hi; obtain ⟨rfl, rfl, rfl⟩ := hi
    exact ⟨_, 0, zm, zo, zn, zc, zp, zk, zd, rfl, by simp [go_sem], by simp [go_sem], by simp [go_sem], h3.below hb⟩
theorem fSum_three (w : World) (T : TypeId) {xm : Bool} {xo : Option Addr} {xn xc : Nat} {xp : Option Addr} {xk xd : Nat} {ym : Bool} {yo : Option Addr} {yn yc : Nat} {yp : Option Addr} {yk yd : Nat} {zm : Bool} {zo : Option Addr} {zn zc : Nat} {zp : Option Addr} {zk zd : Nat} {L1 L2 L3 : Nat} {p q r : Rat} (hL1 : L1 ≤ 1000000) (hL2 : L2 ≤ 1000000) (hL3 : L3 ≤ 1000000) (h1 : FQ w (.agg #[.bool xm, .slice xo xn xc, .slice xp xk xd]) L1 p) (h2 : FQ w (.agg #[.bool ym, .slice yo yn yc, .slice yp yk yd]) L2 q) (h3 : FQ w (.agg #[.bool zm, .slice zo zn zc, .slice zp zk zd]) L3 r) :
    Calls Try.prog 40 #[.slice (some ⟨w.heap.size, 0, none⟩) 3 3] (w.alloc (.cells #[.bool xm, .slice xo xn xc, .slice xp xk xd, .bool ym, .slice yo yn yc, .slice yp yk yd, .bool zm, .slice zo zn zc, .slice zp zk zd] T)) fun e w' => AnsF w w' e (L1 + L2 + L3 + 7) (p + q + r) := by
  obtain ⟨X, D, h1, rfl⟩ := h1
  obtain ⟨Y, E, h2, rfl⟩ := h2
  obtain ⟨Z, F, h3, rfl⟩ := h3
  refine (fSum_go _ 3 3 _ _ rfl (by omega) ?_ (fracs_three w T h1 h2 h3)).mono ?_
  · intro L U G hm; simp at hm; omega
  · rintro e w' h
    obtain ⟨m, ao, n, c, bo, k, d, rfl, h4, h5⟩ := h
    refine ⟨m, ao, n, c, bo, k, d, rfl, (h4.more (by simp [fLen]; omega)).of (by simp [fVal, Rat.zero_add]), ((Below.refl _ _).alloc (Nat.le_refl _) _).trans (h5.mono (by simp))⟩
theorem fSum_none (w : World) : Calls Try.prog 40 #[.slice none 0 0] w fun e w' => AnsF w w' e 1 0 := by
  refine (fSum_go none 0 0 [] w rfl (by omega) (fun L X D hm => by cases hm) (fun i L X D hi => by simp at hi)).mono fun e w' g => g.of ?_ ?_
  · simp [fLen]
  · simp [fVal]
end Go.Proofs.Ytdfabocecpcmcaa
/- A region that draws its order, by one invariant of what is listed: as many arms as operations. Over any program. -/
namespace Go.MagM
open Go
/-- How many are not listed. -/
def cnt (l : Array Bool) : Nat := l.toList.count false
theorem count_set_lt : ∀ (l : List Bool) (i : Nat), l[i]? = some false → (l.set i true).count false + 1 = l.count false
  | [], i, h => by simp at h
  | x :: l, 0, h => by simp at h; subst h; simp
  | x :: l, i + 1, h => by
    have := count_set_lt l i (by simpa using h)
    cases x <;> simp [List.set_cons_succ] <;> omega
theorem getD_false {l : Array Bool} {i : Nat} (h : l.getD i true = false) : l.toList[i]? = some false := by
  rcases Nat.lt_or_ge i l.size with h' | h'
  · simp [h'] at h ⊢; exact h
  · simp [Array.getElem?_eq_none h'] at h
/-- A slot that is written with what it holds. -/
theorem put_same (a : Act) (d : Nat) : a.put (some d) (a.tmps.getD d undef) = a := by
  obtain ⟨tmps, defers⟩ := a
  simp only [Act.put, Act.mk.injEq, and_true]
  apply Array.ext
  · simp
  · intro i h1 h2
    rw [Array.getElem_setIfInBounds]
    split
    · rename_i h; subst h; simp [h2]
    · rfl
section
variable {P : Program} {ops : Array Oper} {Q : Exit → Act → World → Prop} {md : Region.Mode} {S : World → Prop}
theorem ready_cnt {l : Array Bool} {i : Nat} (h : i ∈ Region.ready md ops l) : cnt (l.setIfInBounds i true) + 1 = cnt l := by
  have h1 := getD_false (mem_ready.1 h).1
  have := count_set_lt l.toList i h1
  unfold cnt
  simpa using this
theorem wpAnyH_until (Inv : Array Bool → Act → World → Prop)
    (h : ∀ l a w, Inv l a w → wpAnyH P md ops Q S (cnt l) l a w ∨ (Region.ready md ops l ≠ [] ∧ ∀ i ∈ Region.ready md ops l, wpOp P ops Q i (fun a' w' => S w' ∧ Inv (l.setIfInBounds i true) a' w') a w)) :
    ∀ (fuel : Nat) (l : Array Bool) (a : Act) (w : World), Inv l a w → cnt l = fuel → wpAnyH P md ops Q S fuel l a w
  | 0, l, a, w, hI, hc => by
    rcases h l a w hI with h1 | ⟨h1, _⟩
    · rw [hc] at h1; exact h1
    · exfalso
      obtain ⟨i, hi⟩ := List.exists_mem_of_ne_nil _ h1
      have := ready_cnt hi
      omega
  | fuel + 1, l, a, w, hI, hc => by
    rcases h l a w hI with h1 | ⟨h1, h2⟩
    · rw [hc] at h1; exact h1
    · refine ⟨fun h0 => absurd h0 h1, fun i hi => wpOp_mono (fun a' w' h3 => ⟨h3.1, wpAnyH_until Inv h fuel _ a' w' h3.2 ?_⟩) (h2 i hi)⟩
      have := ready_cnt hi
      omega
theorem step_of {Inv : Array Bool → Act → World → Prop} {l : Array Bool} {a : Act} {w : World} (i : Nat) (o : Oper) (ho : ops[i]? = some o)
    (h : ∀ K' : Act → World → Prop, Shut (∀ a' w', S w' → Inv (l.setIfInBounds i true) a' w' → K' a' w') → if Region.wanted o (yielded ops a.tmps) = true then Oper.wp P o a w K' Q else K' (a.put o.dst undef) w) :
    wpOp P ops Q i (fun a' w' => S w' ∧ Inv (l.setIfInBounds i true) a' w') a w :=
  wpOp_step ho (fun K' hK => h K' (fun a w hS hI => hK a w ⟨hS, hI⟩))
end
end Go.MagM
