/- A slice that is the call's own and grows by append; of its cells none is a word. Over any program. -/
import Derived.Test.YtecnnpkpgbbfkaaPartg
import Derived.Test.YtecnnpkpgbbfkaaParth
import Derived.Laws.AppendOwn
import Derived.Test.YtecnnpkpgbbfkaaParte
import Derived.StillTail
import Derived.Test.YtecnnpkpgbbfkaaPartd
import Derived.Deep.DeepCutAuto
import Derived.Deep.CutBlock
namespace Go.MagM
open Go.RowKit
/-- v is a slice of n elements of size cells each, that lies in a block at base or above; its cells are xs, and none of the block's cells is a word. -/
def RowN (w : World) (base : Nat) (e : TypeId) (size : Nat) (v : Value) (n : Nat) (xs : List Value) : Prop :=
 xs.length = n * size ∧ ((v = .slice none 0 0 ∧ n = 0) ∨
  ∃ g cap cur, v = .slice (some ⟨g, 0, none⟩) n cap ∧ base ≤ g ∧ w.heap[g]? = some (.cells cur e (0, 0)) ∧ n ≤ cap ∧ cap ≤ maxLen ∧ cur.size = cap * size ∧ cur.toList.take (n * size) = xs ∧ ∀ u ∈ cur.toList, NoWord u)
theorem RowN.own {w : World} {base : Nat} {e : TypeId} {size : Nat} {v : Value} {n : Nat} {xs : List Value} (h : RowN w base e size v n xs) : w.ownsRow base e size v n xs := by
 refine ⟨h.1, ?_⟩
 rcases h.2 with h | ⟨g, cap, cur, h1, h2, h3, h4, h5, h6, h7, _⟩
 ·exact .inl h
 ·exact .inr ⟨g, cap, cur, h1, h2, h3, h4, h5, h6, h7⟩
theorem RowN.nil (w : World) (base : Nat) (e : TypeId) (size : Nat) : RowN w base e size (.slice none 0 0) 0 [] := ⟨by simp, .inl ⟨rfl, rfl⟩⟩
theorem RowN.lt {w : World} {base : Nat} {e : TypeId} {size : Nat} {v : Value} {n : Nat} {xs : List Value} (h : RowN w base e size v n xs) : ∀ k, v.ownBlock = some k → base ≤ k ∧ k < w.heap.size := h.own.lt
theorem RowN.block {w w' : World} {base : Nat} {e : TypeId} {size : Nat} {v : Value} {n : Nat} {xs : List Value} (h : RowN w base e size v n xs) (hb : ∀ k, v.ownBlock = some k → k < w.heap.size → w'.heap[k]? = w.heap[k]?) : RowN w' base e size v n xs := by
 refine ⟨h.1, ?_⟩
 rcases h.2 with h | ⟨g, cap, cur, rfl, h2, h3, h4⟩
 ·exact .inl h
 ·exact .inr ⟨g, cap, cur, rfl, h2, by rw [hb g rfl (Array.getElem?_eq_some_iff.1 h3).1]; exact h3, h4⟩
theorem RowN.below {w w' : World} {base : Nat} {e : TypeId} {size : Nat} {v : Value} {n : Nat} {xs : List Value} (h : RowN w base e size v n xs) (hb : Below w.heap.size w w') : RowN w' base e size v n xs :=
 h.block fun k _ hk => hb.block k hk
theorem RowN.drew {w : World} {base : Nat} {e : TypeId} {size : Nat} {v : Value} {n : Nat} {xs : List Value} (h : RowN w base e size v n xs) : RowN w.drew base e size v n xs := h
theorem RowN.grown {w w' : World} {base : Nat} {e : TypeId} {size : Nat} {v : Value} {n : Nat} {xs : List Value} {row : Option Nat} (h : RowN w base e size v n xs) (hg : w.grownBy w' row) (hne : ∀ k, v.ownBlock = some k → some k ≠ row) : RowN w' base e size v n xs :=
 h.block fun k hk hl => hg.block k hl (hne k hk)
theorem Box.grown {w w' : World} {g : Nat} {vs : List Value} {row : Option Nat} (h : Box w g vs) (hg : w.grownBy w' row) (hne : row ≠ some g) (hl : g < w.heap.size) : Box w' g vs := by
 have e := hg.block g hl (fun k => hne k.symm)
 exact ⟨fun i x hi => (World.cell?_of_block (a := ⟨g, i, none⟩) e).trans (h.c i x hi), fun i x hi => (World.frozen?_of_block (a := ⟨g, i, none⟩) e).trans (h.f i x hi)⟩
theorem addr_add (g o j : Nat) : (⟨g, o, none⟩ : Addr).add j = ⟨g, o + j, none⟩ := by unfold Addr.add; split <;> simp_all
theorem Box.news {w : World} {g : Nat} {vs : List Value} (h : Box w g vs) : ∀ j u, vs[j]? = some u → w.cell? ((⟨g, 0, none⟩ : Addr).add j) = some u := by
 intro j u hu; rw [addr_add, Nat.zero_add]; exact h.c j u hu
theorem RowN.cells {w : World} {base : Nat} {e : TypeId} {size : Nat} {v : Value} {n : Nat} {xs : List Value} (h : RowN w base e size v n xs) {g : Nat} (hg : v.ownBlock = some g) : ∀ j u, xs[j]? = some u → w.cell? ⟨g, j, none⟩ = some u := by
 intro j u hu
 have := h.own.cells hg j u hu
 rwa [addr_add, Nat.zero_add] at this
section
variable {P : Program}
theorem noWord_zero {z : Array Value} (hz : ∀ u ∈ z.toList, NoWord u) (n : Nat) : ∀ u ∈ (Builtin.zeroCells z n).toList, NoWord u := by
 intro u hu
 unfold Builtin.zeroCells at hu
 rw [Array.toList_map, List.mem_map] at hu
 obtain ⟨i, hi, rfl⟩ := hu
 have hi' : i < n * z.size := by simpa using hi
 have h0 : 0 < z.size := by
  rcases Nat.eq_zero_or_pos z.size with h | h
  ·rw [h] at hi'; omega
  ·exact h
 have hm := Nat.mod_lt i h0
 rw [getElem!_pos z (i % z.size) hm]
 exact hz _ (Array.mem_toList_iff.2 (Array.getElem_mem hm))
theorem Kept.alloc (w : World) (o : Obj) : Kept w (w.drew.alloc o) := fun a x h => by
 rw [World.cell?_of_block (w := w) (a := a) (heap_alloc_old w.drew o (World.block_lt_of_cell? w a h))]; exact h
/-- append: some slice comes, in some world; its cells are those of both. -/
theorem run_append_row (w : World) (base : Nat) (t ty e : TypeId) (i : TypeInfo) (z : Value) (size bytes : Nat) (ht : P.underlying t = some (.slice e)) (hi : P.info? e = some i) (hz : i.zero = some z)
  (hsize : i.size = size) (hby : i.bytes = bytes) (hzs : z.cells.size = size) (hzw : ∀ u ∈ z.cells.toList, NoWord u)
  (v : Value) (n : Nat) (xs : List Value) (hrow : RowN w base e size v n xs)
  (a : Addr) (m c : Nat) (news : List Value) (hm0 : 0 < m) (hl : news.length = m * size) (hnews : ∀ j u, news[j]? = some u → w.cell? (a.add j) = some u) (h1 : ∀ u ∈ news, u.oneCell' = true) (hnw : ∀ u ∈ news, NoWord u)
  (h63 : n + m ≤ maxLen) (hbytes : (n + m) * bytes ≤ 140737488355328) (hbase : base ≤ w.heap.size) :
  ∃ v' w', (Builtin.append_ #[t, t] ty #[v, .slice (some a) m c]).run P w = .ok v' w' ∧ RowN w' base e size v' (n + m) (xs ++ news) ∧ w.grownBy w' v.ownBlock ∧ Kept w w' := by
 subst hsize
 subst hby
 have hlen : (xs ++ news).length = (n + m) * i.size := by rw [List.length_append, hrow.1, hl, Nat.add_mul]
 have grown : ∀ (old : Nat), old < n + m → (∀ u ∈ xs, NoWord u) → ∀ (row : Option Nat),
   RowN (w.drew.alloc (.cells (xs.toArray ++ news.toArray ++ Builtin.zeroCells z.cells (grownCap w (n + m) old e - (n + m))) e)) base e i.size
    (.slice (some ⟨w.heap.size, 0, none⟩) (n + m) (grownCap w (n + m) old e)) (n + m) (xs ++ news) ∧
   w.grownBy (w.drew.alloc (.cells (xs.toArray ++ news.toArray ++ Builtin.zeroCells z.cells (grownCap w (n + m) old e - (n + m))) e)) row := by
  intro old ho hxw row
  have hge := grownCap_ge w (n + m) old e
  have hcm : grownCap w (n + m) old e ≤ maxLen := grownCap_le_maxLen w (n + m) old e h63
  refine ⟨⟨hlen, .inr ⟨w.heap.size, _, _, rfl, hbase, heap_alloc_new w.drew _, hge, hcm, ?_, ?_, ?_⟩⟩, ⟨rfl, rfl, rfl, by simp, fun k hk _ => heap_alloc_old w.drew _ hk⟩⟩
  ·simp only [Array.size_append, List.size_toArray, size_zeroCells, hzs, hrow.1, hl, ← Nat.add_mul]
   congr 1
   omega
  ·simp only [Array.toList_append, List.append_assoc]
   rw [← List.append_assoc, ← hlen]
   exact List.take_left
  ·intro u hu
   simp only [Array.toList_append, List.mem_append] at hu
   rcases hu with (hu | hu) | hu
   ·exact hxw u hu
   ·exact hnw u hu
   ·exact noWord_zero hzw _ u hu
 have hrow' := hrow
 rcases hrow.2 with ⟨rfl, rfl⟩ | ⟨g, cap, cur, rfl, hbg, hg, hnc, hcm, hcs, htake, hcw⟩
 ·have hx : xs = [] := List.eq_nil_of_length_eq_zero (by simpa using hrow.1)
  subst hx
  have hr := run_append_nil (P := P) w t ty e i z ht hi hz a m c news hl hnews hm0 (by simp only [maxLen] at h63; omega) (by have hb := hbytes; simp only [Nat.zero_add] at hb; omega)
  have hgr := grown 0 (by omega) (fun u hu => by cases hu) (Value.ownBlock (.slice none 0 0))
  simp only [Nat.zero_add, List.nil_append, Array.empty_append] at hgr ⊢
  exact ⟨_, _, hr, hgr.1, hgr.2, Kept.alloc w _⟩
 ·by_cases hroom : n + m ≤ cap
  ·have hfit : n * i.size + news.length ≤ cur.size := by rw [hl, hcs, ← Nat.add_mul]; exact Nat.mul_le_mul_right _ hroom
   have hr := run_append_room (P := P) w t ty e i ht hi g n cap cur hg a m c news hl hnews h1 hroom hfit
   have hcells : ∀ u ∈ cur.toList.take (n * i.size) ++ news ++ cur.toList.drop (n * i.size + news.length), NoWord u := by
    intro u hu
    rw [List.mem_append, List.mem_append] at hu
    rcases hu with (hu | hu) | hu
    ·exact hcw u (List.mem_of_mem_take hu)
    ·exact hnw u hu
    ·exact hcw u (List.mem_of_mem_drop hu)
   refine ⟨_, _, hr, ⟨hlen, .inr ⟨g, cap, _, rfl, hbg, setRow_heap w g cur _ e _ hg, hroom, hcm, ?_, ?_, hcells⟩⟩, ⟨rfl, rfl, rfl, by simp, fun k _ hk => setRow_other w g k _ (fun e => hk (by simp [Value.ownBlock, e]))⟩, ?_⟩
   ·simp only [List.size_toArray, List.length_append, List.length_take, List.length_drop, Array.length_toList]
    omega
   ·rw [htake, ← hlen]
    exact List.take_left
   ·intro p x hp
    by_cases hpg : p.block = g
    ·exfalso
     obtain ⟨pb, po, ps⟩ := p
     simp at hpg
     subst hpg
     have hsp := World.cell?_spot hp
     simp at hsp
     subst hsp
     rw [cell_of_row w pb po cur e (0, 0) hg] at hp
     have hmem : Value.int .u64 x ∈ cur.toList := Array.mem_toList_iff.2 (Array.mem_of_getElem? hp)
     exact hcw _ hmem x rfl
    ·rw [World.cell?_of_block (w := w) (a := p) (setRow_other w g p.block _ hpg)]; exact hp
  ·have holds : ∀ j u, xs[j]? = some u → w.cell? ((⟨g, 0, none⟩ : Addr).add j) = some u := hrow'.own.cells (g := g) rfl
   have hr := run_append_grow (P := P) w t ty e i z ht hi hz ⟨g, 0, none⟩ n cap xs hrow'.1 holds a m c news hl hnews (by omega) (by simp only [maxLen] at h63; omega) (growslice_fits (by omega) hbytes)
   have hgr := grown cap (by omega) (fun u hu => hcw u (by rw [← htake] at hu; exact List.mem_of_mem_take hu)) (Value.ownBlock (.slice (some ⟨g, 0, none⟩) n cap))
   exact ⟨_, _, hr, hgr.1, hgr.2, Kept.alloc w _⟩
theorem wanted_go {o : Oper} {y : Nat → Option Bool} {A B : Prop} (hg : o.guard = none) (h : A) : if Region.wanted o y = true then A else B := by
 have e : Region.wanted o y = true := by simp [Region.wanted, hg]
 rw [if_pos e]; exact h
/-- The operation, in a walk. -/
theorem wp_append_row {w : World} {o : Oper} {a : Act} {K : Act → World → Prop} {Q : Exit → Act → World → Prop} (s x : Operand) (t : TypeId)
  (ho : o.op = .call { callee := .builtin .append, args := #[s, x], argTypes := #[t, t] })
  {v v' : Value} {u : Value} {w' : World} (hs : a.eval s = v) (hx : a.eval x = u) (hr : (Builtin.append_ #[t, t] o.type #[v, u]).run P w = .ok v' w')
  (h : K (a.put o.dst v') w') : o.wp P a w K Q := by
 unfold Oper.wp execOp
 simp only [ho, resolve, invoke, builtin, Sem.run_bind, Sem.run_pure, Result.andThen_ok, List.map_toArray, List.map_cons, List.map_nil, hs, hx, hr]
 exact h
end
end Go.MagM
/- The calls of wide: below, less, across, size, Of, Sign. -/
namespace Go.Proofs.Ytecnnpkpgbbfkaa
open Go.RowKit Go.MagM
/-- A call's answer is a number of 128 bits. -/
def AnsW (w w' : World) (e : Ending) (z : Int) : Prop := e = .returned (.agg #[.int .u64 ((wh z : Nat) : Int), .int .u64 ((wl z : Nat) : Int)]) ∧ Below w.heap.size w w'
set_option maxHeartbeats 4000000 in
theorem below_walk (ah al : Nat) (b : Bool) (w : World) (hb : (bits .and .u64 (ah : Int) 9223372036854775808 != 0) = b) :
  Calls Try.prog 59 #[.agg #[.int .u64 ((ah : Nat) : Int), .int .u64 ((al : Nat) : Int)]] w fun e w' => e = .returned (.bool b) ∧ Below w.heap.size w w' := by
 have hB_0 := Below.refl w.heap.size w
 obtain ⟨w1, hw1, pa_0, hb1, hs1⟩ := new_box w (w.heap.size) rfl [.int .u64 ((ah : Nat) : Int), .int .u64 ((al : Nat) : Int)] 99
 have hb1' : Below w.heap.size w w1 := hb1.mono (by omega)
 clear hb1
 have hB_1 := hB_0.trans (hb1'.mono hB_0.size)
 clear hb1' hB_0
 go_enter Try.func59, Try.ntmps59
 obtain ⟨pae0, pae1, pae2, pae3⟩ := pa_0.open2
 go_wp2
 go_ret
 exact ⟨rfl, hB_1⟩
set_option maxHeartbeats 4000000 in
theorem less_walk (ah al : Nat) (bh bl : Nat) (H L k : Nat) (w : World) (h1 : (al + B - bl - 0) % B = L) (h2 : bor al bl 0 = k) (h3 : (ah + B - bh - k) % B = H) (hk : k ≤ 1) :
  Calls Try.prog 72 #[.agg #[.int .u64 ((ah : Nat) : Int), .int .u64 ((al : Nat) : Int)], .agg #[.int .u64 ((bh : Nat) : Int), .int .u64 ((bl : Nat) : Int)]] w fun e w' => e = .returned (.agg #[.int .u64 ((H : Nat) : Int), .int .u64 ((L : Nat) : Int)]) ∧ Below w.heap.size w w' := by
 have hB_0 := Below.refl w.heap.size w
 have hsub1 := fun w => sub64_run al bl 0 (by omega) w
 have hsub2 := fun w => sub64_run ah bh k (by omega) w
 simp only [h1, h2] at hsub1
 simp only [h3] at hsub2
 have hs1 : ∀ w, (callFunc 79 #[.int .u64 al, .int .u64 bl, .int .u64 0]).run Try.prog w = .ok (.value (.tuple #[.int .u64 L, .int .u64 k])) w := hsub1
 clear hsub1 h1 h2 h3
 obtain ⟨w1, hw1, pa_0, hb1, hs1⟩ := new_box w (w.heap.size) rfl [.int .u64 ((ah : Nat) : Int), .int .u64 ((al : Nat) : Int)] 99
 have hb1' : Below w.heap.size w w1 := hb1.mono (by omega)
 clear hb1
 have hB_1 := hB_0.trans (hb1'.mono hB_0.size)
 clear hb1' hB_0
 obtain ⟨w2, hw2, pb_0, hb2, hs2⟩ := new_box w1 (w.heap.size + 1) hs1 [.int .u64 ((bh : Nat) : Int), .int .u64 ((bl : Nat) : Int)] 99
 have hb2' : Below w1.heap.size w1 w2 := hb2.mono (by omega)
 clear hb2
 have hB_2 := hB_1.trans (hb2'.mono hB_1.size)
 have pa_1 := pa_0.below hb2'
 clear hb2' hB_1 pa_0
 obtain ⟨w3, hw3, pr_0, hb3, hs3⟩ := new_box w2 (w.heap.size + 1 + 1) hs2 [.int .u64 0, .int .u64 0] 99
 have hb3' : Below w2.heap.size w2 w3 := hb3.mono (by omega)
 clear hb3
 have hB_3 := hB_2.trans (hb3'.mono hB_2.size)
 have pa_2 := pa_1.below hb3'
 have pb_1 := pb_0.below hb3'
 clear hb3' hB_2 pa_1 pb_0
 go_enter Try.func72, Try.ntmps72
 obtain ⟨pae0, pae1, pae2, pae3⟩ := pa_2.open2
 obtain ⟨pbe0, pbe1, pbe2, pbe3⟩ := pb_1.open2
 obtain ⟨pre0, pre1, pre2, pre3⟩ := pr_0.open2
 obtain ⟨sf1a, sf1b, sf1c, sf1d⟩ := pr_0.open2
 obtain ⟨sg1a, sg1b⟩ := Box.put2 pr_0 (.int .u64 ((H : Nat) : Int))
 go_wp2
 clear pae0 pae1 pae2 pae3 pbe0 pbe1 pbe2 pbe3 pre0 pre1 pre2 pre3 sf1a sf1b sf1c sf1d sg1a sg1b
 have hB_4 := below_setAll hB_3 (g := w.heap.size + 1 + 1) (by omega) [.int .u64 ((H : Nat) : Int), .int .u64 ((L : Nat) : Int)]
 have pa_3 := pa_2.farAll (g' := w.heap.size + 1 + 1) (by omega) [.int .u64 ((H : Nat) : Int), .int .u64 ((L : Nat) : Int)]
 have pb_2 := pb_1.farAll (g' := w.heap.size + 1 + 1) (by omega) [.int .u64 ((H : Nat) : Int), .int .u64 ((L : Nat) : Int)]
 have pr_1 := pr_0.setAll [.int .u64 ((H : Nat) : Int), .int .u64 ((L : Nat) : Int)] rfl
 simp only [setAll, Nat.zero_add] at hB_4 pa_3 pb_2 pr_1
 clear hB_3 pa_2 pb_1 pr_0
 generalize (World.setCell (World.setCell w3 ⟨w.heap.size + 1 + 1, 0, none⟩ (.int .u64 ((H : Nat) : Int))) ⟨w.heap.size + 1 + 1, 1, none⟩ (.int .u64 ((L : Nat) : Int))) = w4 at *
 go_wp2
 obtain ⟨pre0, pre1, pre2, pre3⟩ := pr_1.open2
 exact bodyPost_ret (v := .agg #[.int .u64 ((H : Nat) : Int), .int .u64 ((L : Nat) : Int)]) (by simp [results, Try.results72, go_sem, pre0, pre1]) rfl ⟨rfl, hB_4⟩
theorem high_and (h : Nat) (hB : h < B) : h &&& 9223372036854775808 = if 9223372036854775808 ≤ h then 9223372036854775808 else 0 := by
 have e : (9223372036854775808 : Nat) = 2 ^ 63 := by decide
 unfold B at hB
 apply Nat.eq_of_testBit_eq
 intro i
 rw [Nat.testBit_and]
 split
 ·rename_i c
  rw [e, Nat.testBit_two_pow]
  by_cases hi : 63 = i
  ·subst hi
   have : h / 2 ^ 63 % 2 = 1 := by omega
   simp [Nat.testBit_eq_decide_div_mod_eq, this]
  ·simp [hi]
 ·rename_i c
  rw [e, Nat.testBit_two_pow, Nat.zero_testBit]
  by_cases hi : 63 = i
  ·subst hi
   rw [Nat.testBit_lt_two_pow (by omega)]; rfl
  ·simp [hi]
theorem below_bit {z : Int} (hz : InW z) : (bits .and .u64 ((wh z : Nat) : Int) 9223372036854775808 != 0) = decide (z < 0) := by
 have h2 : bits .and .u64 ((wh z : Nat) : Int) 9223372036854775808 = ((wh z &&& 9223372036854775808 : Nat) : Int) := bits_and_u64_nat (wh z) 9223372036854775808 (by have := wh_lt z; unfold B at this; omega) (by omega)
 rw [h2, high_and _ (wh_lt z)]
 have h3 := w_neg hz
 by_cases c : z < 0
 ·rw [if_pos (h3.2 c)]; simp [c]
 ·rw [if_neg (mt h3.1 c)]; simp [c]
theorem wbelow_any (z : Int) (hz : InW z) (w : World) : Calls Try.prog 59 #[.agg #[.int .u64 ((wh (z) : Nat) : Int), .int .u64 ((wl (z) : Nat) : Int)]] w fun e w' => e = .returned (.bool (decide (z < 0))) ∧ Below w.heap.size w w' :=
 below_walk _ _ _ w (below_bit hz)
theorem less_any (x y : Int) (w : World) : Calls Try.prog 72 #[.agg #[.int .u64 ((wh (x) : Nat) : Int), .int .u64 ((wl (x) : Nat) : Int)], .agg #[.int .u64 ((wh (y) : Nat) : Int), .int .u64 ((wl (y) : Nat) : Int)]] w fun e w' => AnsW w w' e (x - y) := by
 obtain ⟨h1, h2⟩ := w_sub x y
 exact less_walk _ _ _ _ _ _ _ w h2 rfl h1 (bor_le _ _ _)
theorem less_zero (y : Int) (w : World) : Calls Try.prog 72 #[.agg #[.int .u64 0, .int .u64 0], .agg #[.int .u64 ((wh (y) : Nat) : Int), .int .u64 ((wl (y) : Nat) : Int)]] w fun e w' => AnsW w w' e (-y) := by
 have h := less_any 0 y w
 rw [Int.zero_sub] at h
 exact h
set_option maxHeartbeats 4000000 in
theorem across_any (z : Int) (w : World) :
  Calls Try.prog 83 #[.agg #[.int .u64 ((wh (z) : Nat) : Int), .int .u64 ((wl (z) : Nat) : Int)]] w fun e w' => AnsW w w' e (-z) := by
 have hB_0 := Below.refl w.heap.size w
 obtain ⟨w1, hw1, pa_0, hb1, hs1⟩ := new_box w (w.heap.size) rfl [.int .u64 ((wh (z) : Nat) : Int), .int .u64 ((wl (z) : Nat) : Int)] 99
 have hb1' : Below w.heap.size w w1 := hb1.mono (by omega)
 clear hb1
 have hB_1 := hB_0.trans (hb1'.mono hB_0.size)
 clear hb1' hB_0
 obtain ⟨w2, hw2, pr_0, hb2, hs2⟩ := new_box w1 (w.heap.size + 1) hs1 [.int .u64 0, .int .u64 0] 99
 have hb2' : Below w1.heap.size w1 w2 := hb2.mono (by omega)
 clear hb2
 have hB_2 := hB_1.trans (hb2'.mono hB_1.size)
 have pa_1 := pa_0.below hb2'
 clear hb2' hB_1 pa_0
 go_enter Try.func83, Try.ntmps83
 obtain ⟨pae0, pae1, pae2, pae3⟩ := pa_1.open2
 obtain ⟨pre0, pre1, pre2, pre3⟩ := pr_0.open2
 go_wp2_with fail
 refine (less_zero z _).mono ?_
 rintro e w3 ⟨rfl, hb3⟩
 clear pae0 pae1 pae2 pae3 pre0 pre1 pre2 pre3
 have hB_3 := hB_2.trans (hb3.mono hB_2.size)
 have pa_2 := pa_1.below hb3
 have pr_1 := pr_0.below hb3
 clear hb3 hB_2 pa_1 pr_0
 obtain ⟨pae0, pae1, pae2, pae3⟩ := pa_2.open2
 obtain ⟨pre0, pre1, pre2, pre3⟩ := pr_1.open2
 obtain ⟨sf1a, sf1b, sf1c, sf1d⟩ := pr_1.open2
 obtain ⟨sg1a, sg1b⟩ := Box.put2 pr_1 (.int .u64 ((wh (-z) : Nat) : Int))
 go_wp2
 clear pae0 pae1 pae2 pae3 pre0 pre1 pre2 pre3 sf1a sf1b sf1c sf1d sg1a sg1b
 have hB_4 := below_setAll hB_3 (g := w.heap.size + 1) (by omega) [.int .u64 ((wh (-z) : Nat) : Int), .int .u64 ((wl (-z) : Nat) : Int)]
 have pa_3 := pa_2.farAll (g' := w.heap.size + 1) (by omega) [.int .u64 ((wh (-z) : Nat) : Int), .int .u64 ((wl (-z) : Nat) : Int)]
 have pr_2 := pr_1.setAll [.int .u64 ((wh (-z) : Nat) : Int), .int .u64 ((wl (-z) : Nat) : Int)] rfl
 simp only [setAll, Nat.zero_add] at hB_4 pa_3 pr_2
 clear hB_3 pa_2 pr_1
 generalize (World.setCell (World.setCell w3 ⟨w.heap.size + 1, 0, none⟩ (.int .u64 ((wh (-z) : Nat) : Int))) ⟨w.heap.size + 1, 1, none⟩ (.int .u64 ((wl (-z) : Nat) : Int))) = w4 at *
 go_wp2
 obtain ⟨pre0, pre1, pre2, pre3⟩ := pr_2.open2
 exact bodyPost_ret (v := .agg #[.int .u64 ((wh (-z) : Nat) : Int), .int .u64 ((wl (-z) : Nat) : Int)]) (by simp [results, Try.results83, go_sem, pre0, pre1]) rfl ⟨rfl, hB_4⟩
set_option maxHeartbeats 4000000 in
theorem size_neg (z : Int) (w : World) (hz : InW z) (h0 : z < 0) :
  Calls Try.prog 81 #[.agg #[.int .u64 ((wh (z) : Nat) : Int), .int .u64 ((wl (z) : Nat) : Int)]] w fun e w' => AnsW w w' e (-z) := by
 have hbel : ∀ w, Calls Try.prog 59 #[.agg #[.int .u64 ((wh (z) : Nat) : Int), .int .u64 ((wl (z) : Nat) : Int)]] w fun e w' => e = .returned (.bool true) ∧ Below w.heap.size w w' := by
  intro w; have := wbelow_any z hz w; simpa only [h0, decide_true] using this
 have hB_0 := Below.refl w.heap.size w
 obtain ⟨w1, hw1, pa_0, hb1, hs1⟩ := new_box w (w.heap.size) rfl [.int .u64 ((wh (z) : Nat) : Int), .int .u64 ((wl (z) : Nat) : Int)] 99
 have hb1' : Below w.heap.size w w1 := hb1.mono (by omega)
 clear hb1
 have hB_1 := hB_0.trans (hb1'.mono hB_0.size)
 clear hb1' hB_0
 obtain ⟨w2, hw2, pr_0, hb2, hs2⟩ := new_box w1 (w.heap.size + 1) hs1 [.int .u64 0, .int .u64 0] 99
 have hb2' : Below w1.heap.size w1 w2 := hb2.mono (by omega)
 clear hb2
 have hB_2 := hB_1.trans (hb2'.mono hB_1.size)
 have pa_1 := pa_0.below hb2'
 clear hb2' hB_1 pa_0
 go_enter Try.func81, Try.ntmps81
 obtain ⟨pae0, pae1, pae2, pae3⟩ := pa_1.open2
 obtain ⟨pre0, pre1, pre2, pre3⟩ := pr_0.open2
 go_wp2_with fail
 refine (hbel _).mono ?_
 rintro e w3 ⟨rfl, hb3⟩
 clear pae0 pae1 pae2 pae3 pre0 pre1 pre2 pre3
 have hB_3 := hB_2.trans (hb3.mono hB_2.size)
 have pa_2 := pa_1.below hb3
 have pr_1 := pr_0.below hb3
 clear hb3 hB_2 pa_1 pr_0
 obtain ⟨pae0, pae1, pae2, pae3⟩ := pa_2.open2
 obtain ⟨pre0, pre1, pre2, pre3⟩ := pr_1.open2
 go_wp2_with fail
 refine (across_any z _).mono ?_
 rintro e w4 ⟨rfl, hb4⟩
 clear pae0 pae1 pae2 pae3 pre0 pre1 pre2 pre3
 have hB_4 := hB_3.trans (hb4.mono hB_3.size)
 have pa_3 := pa_2.below hb4
 have pr_2 := pr_1.below hb4
 clear hb4 hB_3 pa_2 pr_1
 obtain ⟨pae0, pae1, pae2, pae3⟩ := pa_3.open2
 obtain ⟨pre0, pre1, pre2, pre3⟩ := pr_2.open2
 obtain ⟨sf1a, sf1b, sf1c, sf1d⟩ := pr_2.open2
 obtain ⟨sg1a, sg1b⟩ := Box.put2 pr_2 (.int .u64 ((wh (-z) : Nat) : Int))
 go_wp2
 clear pae0 pae1 pae2 pae3 pre0 pre1 pre2 pre3 sf1a sf1b sf1c sf1d sg1a sg1b
 have hB_5 := below_setAll hB_4 (g := w.heap.size + 1) (by omega) [.int .u64 ((wh (-z) : Nat) : Int), .int .u64 ((wl (-z) : Nat) : Int)]
 have pa_4 := pa_3.farAll (g' := w.heap.size + 1) (by omega) [.int .u64 ((wh (-z) : Nat) : Int), .int .u64 ((wl (-z) : Nat) : Int)]
 have pr_3 := pr_2.setAll [.int .u64 ((wh (-z) : Nat) : Int), .int .u64 ((wl (-z) : Nat) : Int)] rfl
 simp only [setAll, Nat.zero_add] at hB_5 pa_4 pr_3
 clear hB_4 pa_3 pr_2
 generalize (World.setCell (World.setCell w4 ⟨w.heap.size + 1, 0, none⟩ (.int .u64 ((wh (-z) : Nat) : Int))) ⟨w.heap.size + 1, 1, none⟩ (.int .u64 ((wl (-z) : Nat) : Int))) = w5 at *
 go_wp2
 obtain ⟨pre0, pre1, pre2, pre3⟩ := pr_3.open2
 exact bodyPost_ret (v := .agg #[.int .u64 ((wh (-z) : Nat) : Int), .int .u64 ((wl (-z) : Nat) : Int)]) (by simp [results, Try.results81, go_sem, pre0, pre1]) rfl ⟨rfl, hB_5⟩
set_option maxHeartbeats 4000000 in
theorem size_pos (z : Int) (w : World) (hz : InW z) (h0 : ¬ z < 0) :
  Calls Try.prog 81 #[.agg #[.int .u64 ((wh (z) : Nat) : Int), .int .u64 ((wl (z) : Nat) : Int)]] w fun e w' => AnsW w w' e (z) := by
 have hbel : ∀ w, Calls Try.prog 59 #[.agg #[.int .u64 ((wh (z) : Nat) : Int), .int .u64 ((wl (z) : Nat) : Int)]] w fun e w' => e = .returned (.bool false) ∧ Below w.heap.size w w' := by
  intro w; have := wbelow_any z hz w; simpa only [h0, decide_false] using this
 have hB_0 := Below.refl w.heap.size w
 obtain ⟨w1, hw1, pa_0, hb1, hs1⟩ := new_box w (w.heap.size) rfl [.int .u64 ((wh (z) : Nat) : Int), .int .u64 ((wl (z) : Nat) : Int)] 99
 have hb1' : Below w.heap.size w w1 := hb1.mono (by omega)
 clear hb1
 have hB_1 := hB_0.trans (hb1'.mono hB_0.size)
 clear hb1' hB_0
 obtain ⟨w2, hw2, pr_0, hb2, hs2⟩ := new_box w1 (w.heap.size + 1) hs1 [.int .u64 0, .int .u64 0] 99
 have hb2' : Below w1.heap.size w1 w2 := hb2.mono (by omega)
 clear hb2
 have hB_2 := hB_1.trans (hb2'.mono hB_1.size)
 have pa_1 := pa_0.below hb2'
 clear hb2' hB_1 pa_0
 go_enter Try.func81, Try.ntmps81
 obtain ⟨pae0, pae1, pae2, pae3⟩ := pa_1.open2
 obtain ⟨pre0, pre1, pre2, pre3⟩ := pr_0.open2
 go_wp2_with fail
 refine (hbel _).mono ?_
 rintro e w3 ⟨rfl, hb3⟩
 clear pae0 pae1 pae2 pae3 pre0 pre1 pre2 pre3
 have hB_3 := hB_2.trans (hb3.mono hB_2.size)
 have pa_2 := pa_1.below hb3
 have pr_1 := pr_0.below hb3
 clear hb3 hB_2 pa_1 pr_0
 obtain ⟨pae0, pae1, pae2, pae3⟩ := pa_2.open2
 obtain ⟨pre0, pre1, pre2, pre3⟩ := pr_1.open2
 obtain ⟨sf1a, sf1b, sf1c, sf1d⟩ := pr_1.open2
 obtain ⟨sg1a, sg1b⟩ := Box.put2 pr_1 (.int .u64 ((wh (z) : Nat) : Int))
 go_wp2
 clear pae0 pae1 pae2 pae3 pre0 pre1 pre2 pre3 sf1a sf1b sf1c sf1d sg1a sg1b
 have hB_4 := below_setAll hB_3 (g := w.heap.size + 1) (by omega) [.int .u64 ((wh (z) : Nat) : Int), .int .u64 ((wl (z) : Nat) : Int)]
 have pa_3 := pa_2.farAll (g' := w.heap.size + 1) (by omega) [.int .u64 ((wh (z) : Nat) : Int), .int .u64 ((wl (z) : Nat) : Int)]
 have pr_2 := pr_1.setAll [.int .u64 ((wh (z) : Nat) : Int), .int .u64 ((wl (z) : Nat) : Int)] rfl
 simp only [setAll, Nat.zero_add] at hB_4 pa_3 pr_2
 clear hB_3 pa_2 pr_1
 generalize (World.setCell (World.setCell w3 ⟨w.heap.size + 1, 0, none⟩ (.int .u64 ((wh (z) : Nat) : Int))) ⟨w.heap.size + 1, 1, none⟩ (.int .u64 ((wl (z) : Nat) : Int))) = w4 at *
 go_wp2
 obtain ⟨pre0, pre1, pre2, pre3⟩ := pr_2.open2
 exact bodyPost_ret (v := .agg #[.int .u64 ((wh (z) : Nat) : Int), .int .u64 ((wl (z) : Nat) : Int)]) (by simp [results, Try.results81, go_sem, pre0, pre1]) rfl ⟨rfl, hB_4⟩
theorem size_any (z : Int) (w : World) (hz : InW z) : Calls Try.prog 81 #[.agg #[.int .u64 ((wh (z) : Nat) : Int), .int .u64 ((wl (z) : Nat) : Int)]] w fun e w' => AnsW w w' e (z.natAbs : Int) := by
 by_cases h0 : z < 0
 ·have h := size_neg z w hz h0
  rwa [show -z = (z.natAbs : Int) by omega] at h
 ·have h := size_pos z w hz h0
  have e : z = (z.natAbs : Int) := by omega
  rw [← e]; exact h
set_option maxHeartbeats 4000000 in
theorem Of_walk_neg (n : Int) (w : World) (h0 : n < 0) :
  Calls Try.prog 82 #[.int .i64 n] w fun e w' => e = .returned (.agg #[.int .u64 18446744073709551615, .int .u64 (IntKind.u64.wrap n)]) ∧ Below w.heap.size w w' := by
 have hB_0 := Below.refl w.heap.size w
 obtain ⟨w1, hw1, pr_0, hb1, hs1⟩ := new_box w (w.heap.size) rfl [.int .u64 0, .int .u64 0] 99
 have hb1' : Below w.heap.size w w1 := hb1.mono (by omega)
 clear hb1
 have hB_1 := hB_0.trans (hb1'.mono hB_0.size)
 clear hb1' hB_0
 go_enter Try.func82, Try.ntmps82
 obtain ⟨pre0, pre1, pre2, pre3⟩ := pr_0.open2
 obtain ⟨sf1a, sf1b, sf1c, sf1d⟩ := pr_0.open2
 obtain ⟨sg1a, sg1b⟩ := Box.put2 pr_0 (.int .u64 18446744073709551615)
 go_wp2
 clear pre0 pre1 pre2 pre3 sf1a sf1b sf1c sf1d sg1a sg1b
 have hB_2 := below_setAll hB_1 (g := w.heap.size) (by omega) [.int .u64 18446744073709551615, .int .u64 (IntKind.u64.wrap n)]
 have pr_1 := pr_0.setAll [.int .u64 18446744073709551615, .int .u64 (IntKind.u64.wrap n)] rfl
 simp only [setAll, Nat.zero_add] at hB_2 pr_1
 clear hB_1 pr_0
 generalize (World.setCell (World.setCell w1 ⟨w.heap.size, 0, none⟩ (.int .u64 18446744073709551615)) ⟨w.heap.size, 1, none⟩ (.int .u64 (IntKind.u64.wrap n))) = w2 at *
 go_wp2
 obtain ⟨pre0, pre1, pre2, pre3⟩ := pr_1.open2
 exact bodyPost_ret (v := .agg #[.int .u64 18446744073709551615, .int .u64 (IntKind.u64.wrap n)]) (by simp [results, Try.results82, go_sem, pre0, pre1]) rfl ⟨rfl, hB_2⟩
set_option maxHeartbeats 4000000 in
theorem Of_walk_pos (n : Int) (w : World) (h0 : ¬ n < 0) :
  Calls Try.prog 82 #[.int .i64 n] w fun e w' => e = .returned (.agg #[.int .u64 0, .int .u64 (IntKind.u64.wrap n)]) ∧ Below w.heap.size w w' := by
 have hB_0 := Below.refl w.heap.size w
 obtain ⟨w1, hw1, pr_0, hb1, hs1⟩ := new_box w (w.heap.size) rfl [.int .u64 0, .int .u64 0] 99
 have hb1' : Below w.heap.size w w1 := hb1.mono (by omega)
 clear hb1
 have hB_1 := hB_0.trans (hb1'.mono hB_0.size)
 clear hb1' hB_0
 go_enter Try.func82, Try.ntmps82
 obtain ⟨pre0, pre1, pre2, pre3⟩ := pr_0.open2
 obtain ⟨sf1a, sf1b, sf1c, sf1d⟩ := pr_0.open2
 obtain ⟨sg1a, sg1b⟩ := Box.put2 pr_0 (.int .u64 0)
 go_wp2
 clear pre0 pre1 pre2 pre3 sf1a sf1b sf1c sf1d sg1a sg1b
 have hB_2 := below_setAll hB_1 (g := w.heap.size) (by omega) [.int .u64 0, .int .u64 (IntKind.u64.wrap n)]
 have pr_1 := pr_0.setAll [.int .u64 0, .int .u64 (IntKind.u64.wrap n)] rfl
 simp only [setAll, Nat.zero_add] at hB_2 pr_1
 clear hB_1 pr_0
 generalize (World.setCell (World.setCell w1 ⟨w.heap.size, 0, none⟩ (.int .u64 0)) ⟨w.heap.size, 1, none⟩ (.int .u64 (IntKind.u64.wrap n))) = w2 at *
 go_wp2
 obtain ⟨pre0, pre1, pre2, pre3⟩ := pr_1.open2
 exact bodyPost_ret (v := .agg #[.int .u64 0, .int .u64 (IntKind.u64.wrap n)]) (by simp [results, Try.results82, go_sem, pre0, pre1]) rfl ⟨rfl, hB_2⟩
theorem wOf_any (n : Int) (h : -9223372036854775808 ≤ n) (h1 : n < 9223372036854775808) (w : World) : Calls Try.prog 82 #[.int .i64 n] w fun e w' => AnsW w w' e n := by
 by_cases h0 : n < 0
 ·obtain ⟨a, b⟩ := w_int_neg h h0
  have := Of_walk_neg n w h0
  unfold AnsW; rw [a, b]; exact this
 ·obtain ⟨a, b⟩ := w_int_pos h1 (Int.not_lt.1 h0)
  have := Of_walk_pos n w h0
  unfold AnsW; rw [a, b]; exact this
end Go.Proofs.Ytecnnpkpgbbfkaa
/- The calls of wide: Sign, Cmp. -/
namespace Go.Proofs.Ytecnnpkpgbbfkaa
open Go.RowKit Go.MagM
set_option maxHeartbeats 4000000 in
theorem Sign_w_zero  (w : World) :
  Calls Try.prog 53 #[.agg #[.int .u64 0, .int .u64 0]] w fun e w' => e = .returned (.int .i64 (0)) ∧ Below w.heap.size w w' := by
 have hB_0 := Below.refl w.heap.size w
 obtain ⟨w1, hw1, pa_0, hb1, hs1⟩ := new_box w (w.heap.size) rfl [.int .u64 0, .int .u64 0] 99
 have hb1' : Below w.heap.size w w1 := hb1.mono (by omega)
 clear hb1
 have hB_1 := hB_0.trans (hb1'.mono hB_0.size)
 clear hb1' hB_0
 go_enter Try.func53, Try.ntmps53
 obtain ⟨pae0, pae1, pae2, pae3⟩ := pa_0.open2
 go_wp2
 go_ret
 exact ⟨rfl, hB_1⟩
set_option maxHeartbeats 4000000 in
theorem Sign_w_neg (ah al : Nat) (h0 : ¬ ah = 0) (hbel : ∀ w, Calls Try.prog 59 #[.agg #[.int .u64 ((ah : Nat) : Int), .int .u64 ((al : Nat) : Int)]] w fun e w' => e = .returned (.bool true) ∧ Below w.heap.size w w') (w : World) :
  Calls Try.prog 53 #[.agg #[.int .u64 ((ah : Nat) : Int), .int .u64 ((al : Nat) : Int)]] w fun e w' => e = .returned (.int .i64 (-1)) ∧ Below w.heap.size w w' := by
 have hB_0 := Below.refl w.heap.size w
 obtain ⟨w1, hw1, pa_0, hb1, hs1⟩ := new_box w (w.heap.size) rfl [.int .u64 ((ah : Nat) : Int), .int .u64 ((al : Nat) : Int)] 99
 have hb1' : Below w.heap.size w w1 := hb1.mono (by omega)
 clear hb1
 have hB_1 := hB_0.trans (hb1'.mono hB_0.size)
 clear hb1' hB_0
 go_enter Try.func53, Try.ntmps53
 obtain ⟨pae0, pae1, pae2, pae3⟩ := pa_0.open2
 go_wp2_with fail
 refine (hbel _).mono ?_
 rintro e w2 ⟨rfl, hb2⟩
 clear pae0 pae1 pae2 pae3
 have hB_2 := hB_1.trans (hb2.mono hB_1.size)
 have pa_1 := pa_0.below hb2
 clear hb2 hB_1 pa_0
 obtain ⟨pae0, pae1, pae2, pae3⟩ := pa_1.open2
 go_wp2
 go_ret
 exact ⟨rfl, hB_2⟩
set_option maxHeartbeats 4000000 in
theorem Sign_w_pos (ah al : Nat) (h0 : ¬ ah = 0) (hbel : ∀ w, Calls Try.prog 59 #[.agg #[.int .u64 ((ah : Nat) : Int), .int .u64 ((al : Nat) : Int)]] w fun e w' => e = .returned (.bool false) ∧ Below w.heap.size w w') (w : World) :
  Calls Try.prog 53 #[.agg #[.int .u64 ((ah : Nat) : Int), .int .u64 ((al : Nat) : Int)]] w fun e w' => e = .returned (.int .i64 (1)) ∧ Below w.heap.size w w' := by
 have hB_0 := Below.refl w.heap.size w
 obtain ⟨w1, hw1, pa_0, hb1, hs1⟩ := new_box w (w.heap.size) rfl [.int .u64 ((ah : Nat) : Int), .int .u64 ((al : Nat) : Int)] 99
 have hb1' : Below w.heap.size w w1 := hb1.mono (by omega)
 clear hb1
 have hB_1 := hB_0.trans (hb1'.mono hB_0.size)
 clear hb1' hB_0
 go_enter Try.func53, Try.ntmps53
 obtain ⟨pae0, pae1, pae2, pae3⟩ := pa_0.open2
 go_wp2_with fail
 refine (hbel _).mono ?_
 rintro e w2 ⟨rfl, hb2⟩
 clear pae0 pae1 pae2 pae3
 have hB_2 := hB_1.trans (hb2.mono hB_1.size)
 have pa_1 := pa_0.below hb2
 clear hb2 hB_1 pa_0
 obtain ⟨pae0, pae1, pae2, pae3⟩ := pa_1.open2
 go_wp2
 go_ret
 exact ⟨rfl, hB_2⟩
set_option maxHeartbeats 4000000 in
theorem Sign_w_low (al : Nat) (h0 : ¬ al = 0) (hbel : ∀ w, Calls Try.prog 59 #[.agg #[.int .u64 0, .int .u64 ((al : Nat) : Int)]] w fun e w' => e = .returned (.bool false) ∧ Below w.heap.size w w') (w : World) :
  Calls Try.prog 53 #[.agg #[.int .u64 0, .int .u64 ((al : Nat) : Int)]] w fun e w' => e = .returned (.int .i64 (1)) ∧ Below w.heap.size w w' := by
 have hB_0 := Below.refl w.heap.size w
 obtain ⟨w1, hw1, pa_0, hb1, hs1⟩ := new_box w (w.heap.size) rfl [.int .u64 0, .int .u64 ((al : Nat) : Int)] 99
 have hb1' : Below w.heap.size w w1 := hb1.mono (by omega)
 clear hb1
 have hB_1 := hB_0.trans (hb1'.mono hB_0.size)
 clear hb1' hB_0
 go_enter Try.func53, Try.ntmps53
 obtain ⟨pae0, pae1, pae2, pae3⟩ := pa_0.open2
 go_wp2_with fail
 refine (hbel _).mono ?_
 rintro e w2 ⟨rfl, hb2⟩
 clear pae0 pae1 pae2 pae3
 have hB_2 := hB_1.trans (hb2.mono hB_1.size)
 have pa_1 := pa_0.below hb2
 clear hb2 hB_1 pa_0
 obtain ⟨pae0, pae1, pae2, pae3⟩ := pa_1.open2
 go_wp2
 go_ret
 exact ⟨rfl, hB_2⟩
/-- The number of 128 bits that has these words. -/
def wrapW (z : Int) : Int := (z + 170141183460469231731687303715884105728) % 340282366920938463463374607431768211456 - 170141183460469231731687303715884105728
theorem wrapW_in (z : Int) : InW (wrapW z) := by unfold wrapW InW; omega
theorem wrapW_h (z : Int) : wh (wrapW z) = wh z := by unfold wrapW wh; omega
theorem wrapW_l (z : Int) : wl (wrapW z) = wl z := by unfold wrapW wl; omega
theorem wrapW_self {z : Int} (h : InW z) : wrapW z = z := by unfold wrapW; unfold InW at h; omega
theorem wbelow_all (z : Int) (w : World) : Calls Try.prog 59 #[.agg #[.int .u64 ((wh (z) : Nat) : Int), .int .u64 ((wl (z) : Nat) : Int)]] w fun e w' => e = .returned (.bool (decide (wrapW z < 0))) ∧ Below w.heap.size w w' := by
 have h := wbelow_any (wrapW z) (wrapW_in z) w
 rw [wrapW_h, wrapW_l] at h
 exact h
theorem wSign_all (z : Int) (w : World) : Calls Try.prog 53 #[.agg #[.int .u64 ((wh (z) : Nat) : Int), .int .u64 ((wl (z) : Nat) : Int)]] w fun e w' => e = .returned (.int .i64 (wrapW z).sign) ∧ Below w.heap.size w w' := by
 have hz := wrapW_in z
 have h1 := wrapW_h z; have h2 := wrapW_l z
 have hbel := fun w => wbelow_all z w
 rw [← h1, ← h2] at *
 generalize wrapW z = x at *
 have hm := w_neg hz
 have hw := w_mod x
 by_cases hh : wh x = 0
 ·by_cases hl : wl x = 0
  ·have hx : x = 0 := by rw [hh, hl] at hw; unfold InW at hz; omega
   subst hx
   rw [wh_zero, wl_zero]
   exact Sign_w_zero w
  ·have hx : 0 < x := by rw [hh] at hw; unfold InW at hz; omega
   rw [Int.sign_eq_one_of_pos hx]
   rw [hh] at hbel ⊢
   refine Sign_w_low _ hl ?_ w
   intro w
   have := hbel w
   rwa [decide_eq_false (by omega : ¬ x < 0)] at this
 ·by_cases hx : x < 0
  ·rw [Int.sign_eq_neg_one_of_neg hx]
   refine Sign_w_neg _ _ hh ?_ w
   intro w
   have := hbel w
   rwa [decide_eq_true hx] at this
  ·have hx0 : 0 < x := by unfold InW at hz; omega
   rw [Int.sign_eq_one_of_pos hx0]
   refine Sign_w_pos _ _ hh ?_ w
   intro w
   have := hbel w
   rwa [decide_eq_false hx] at this
end Go.Proofs.Ytecnnpkpgbbfkaa
/- The calls of wide: Mul, Det. -/
namespace Go.Proofs.Ytecnnpkpgbbfkaa
open Go.RowKit Go.MagM
theorem mul64_is (x y H L : Nat) (w : World) (hx : x < B) (hy : y < B) (h1 : x * y / B = H) (h2 : x * y % B = L) :
  Calls Try.prog 80 #[.int .u64 ((x : Nat) : Int), .int .u64 ((y : Nat) : Int)] w fun e w' => e = .returned (.tuple #[.int .u64 ((H : Nat) : Int), .int .u64 ((L : Nat) : Int)]) ∧ Below w.heap.size w w' := by
 subst h1; subst h2
 exact (mul64_any x y w hx hy).mono fun e w' h => by obtain ⟨h1, rfl⟩ := h; exact ⟨h1, Below.refl _ _⟩
theorem inW_int {n : Int} (h : -9223372036854775808 ≤ n) (h1 : n < 9223372036854775808) : InW n := by unfold InW; omega
set_option maxHeartbeats 4000000 in
theorem wMul_w_tt (a b : Int) (ha1 : -9223372036854775808 ≤ a) (ha2 : a < 9223372036854775808) (hb1 : -9223372036854775808 ≤ b) (hb2 : b < 9223372036854775808) (H L H' L' : Nat) (sa : a < 0) (sb : b < 0) (cm : ∀ w, Calls Try.prog 80 #[.int .u64 ((wl ((a.natAbs : Int)) : Nat) : Int), .int .u64 ((wl ((b.natAbs : Int)) : Nat) : Int)] w fun e w' => e = .returned (.tuple #[.int .u64 ((H : Nat) : Int), .int .u64 ((L : Nat) : Int)]) ∧ Below w.heap.size w w') (hac : ∀ w, Calls Try.prog 83 #[.agg #[.int .u64 ((H : Nat) : Int), .int .u64 ((L : Nat) : Int)]] w fun e w' => e = .returned (.agg #[.int .u64 ((H' : Nat) : Int), .int .u64 ((L' : Nat) : Int)]) ∧ Below w.heap.size w w') (w : World) :
  Calls Try.prog 73 #[.int .i64 a, .int .i64 b] w fun e w' => e = .returned (.agg #[.int .u64 ((H : Nat) : Int), .int .u64 ((L : Nat) : Int)]) ∧ Below w.heap.size w w' := by
 have hB_0 := Below.refl w.heap.size w
 have CM := Lib.hid cm; have CA := Lib.hid hac; have IA := Lib.hid (inW_int ha1 ha2); have IB := Lib.hid (inW_int hb1 hb2); have HA1 := Lib.hid ha1; have HA2 := Lib.hid ha2; have HB1 := Lib.hid hb1; have HB2 := Lib.hid hb2
 clear cm hac ha1 ha2 hb1 hb2
 have qa : decide (a < 0) = true := by simp [sa]
 have qb : decide (b < 0) = true := by simp [sb]
 clear sa sb
 have hfa : ∀ w : World, (Instr.field 99 (.agg #[.int .u64 ((wh ((a.natAbs : Int)) : Nat) : Int), .int .u64 ((wl ((a.natAbs : Int)) : Nat) : Int)]) 1).run Try.prog w = .ok (.int .u64 ((wl ((a.natAbs : Int)) : Nat) : Int)) w := fun _ => by kernel_rfl
 have hfb : ∀ w : World, (Instr.field 99 (.agg #[.int .u64 ((wh ((b.natAbs : Int)) : Nat) : Int), .int .u64 ((wl ((b.natAbs : Int)) : Nat) : Int)]) 1).run Try.prog w = .ok (.int .u64 ((wl ((b.natAbs : Int)) : Nat) : Int)) w := fun _ => by kernel_rfl
 obtain ⟨w1, hw1, pr_0, hb1, hs1⟩ := new_box w (w.heap.size) rfl [.int .u64 0, .int .u64 0] 99
 have hb1' : Below w.heap.size w w1 := hb1.mono (by omega)
 clear hb1
 have hB_1 := hB_0.trans (hb1'.mono hB_0.size)
 clear hb1' hB_0
 go_enter Try.func73, Try.ntmps73
 obtain ⟨pre0, pre1, pre2, pre3⟩ := pr_0.open2
 go_wp2_with fail
 refine (wOf_any a HA1.out HA2.out _).mono ?_
 rintro e w2 ⟨rfl, hb2⟩
 clear pre0 pre1 pre2 pre3
 have hB_2 := hB_1.trans (hb2.mono hB_1.size)
 have pr_1 := pr_0.below hb2
 clear hb2 hB_1 pr_0
 obtain ⟨pre0, pre1, pre2, pre3⟩ := pr_1.open2
 go_wp2_with fail
 refine (size_any a _ IA.out).mono ?_
 rintro e w3 ⟨rfl, hb3⟩
 clear pre0 pre1 pre2 pre3
 have hB_3 := hB_2.trans (hb3.mono hB_2.size)
 have pr_2 := pr_1.below hb3
 clear hb3 hB_2 pr_1
 obtain ⟨pre0, pre1, pre2, pre3⟩ := pr_2.open2
 go_wp2_with fail
 refine (wOf_any b HB1.out HB2.out _).mono ?_
 rintro e w4 ⟨rfl, hb4⟩
 clear pre0 pre1 pre2 pre3
 have hB_4 := hB_3.trans (hb4.mono hB_3.size)
 have pr_3 := pr_2.below hb4
 clear hb4 hB_3 pr_2
 obtain ⟨pre0, pre1, pre2, pre3⟩ := pr_3.open2
 go_wp2_with fail
 refine (size_any b _ IB.out).mono ?_
 rintro e w5 ⟨rfl, hb5⟩
 clear pre0 pre1 pre2 pre3
 have hB_5 := hB_4.trans (hb5.mono hB_4.size)
 have pr_4 := pr_3.below hb5
 clear hb5 hB_4 pr_3
 obtain ⟨pre0, pre1, pre2, pre3⟩ := pr_4.open2
 go_wp2_with fail
 refine (CM.out _).mono ?_
 rintro e w6 ⟨rfl, hb6⟩
 clear pre0 pre1 pre2 pre3
 have hB_6 := hB_5.trans (hb6.mono hB_5.size)
 have pr_5 := pr_4.below hb6
 clear hb6 hB_5 pr_4
 obtain ⟨pre0, pre1, pre2, pre3⟩ := pr_5.open2
 clear pre0 pre1 pre2 pre3
 have hl1pr := pr_5.lt
 have hl1B := hB_6.size
 obtain ⟨w7, hw7, pp_0, hb7, hs7⟩ := new_box w6 (w6.heap.size) rfl [.int .u64 ((H : Nat) : Int), .int .u64 ((L : Nat) : Int)] 99
 have hb7' : Below w6.heap.size w6 w7 := hb7.mono (by omega)
 clear hb7
 have hB_7 := hB_6.trans (hb7'.mono hB_6.size)
 have pr_6 := pr_5.below hb7'
 clear hb7' hB_6 pr_5
 obtain ⟨pre0, pre1, pre2, pre3⟩ := pr_6.open2
 obtain ⟨ppe0, ppe1, ppe2, ppe3⟩ := pp_0.open2
 obtain ⟨sf1a, sf1b, sf1c, sf1d⟩ := pr_6.open2
 obtain ⟨sg1a, sg1b⟩ := Box.put2 pr_6 (.int .u64 ((H : Nat) : Int))
 go_wp2
 clear pre0 pre1 pre2 pre3 ppe0 ppe1 ppe2 ppe3 sf1a sf1b sf1c sf1d sg1a sg1b
 have hB_8 := below_setAll hB_7 (g := w.heap.size) (by omega) [.int .u64 ((H : Nat) : Int), .int .u64 ((L : Nat) : Int)]
 have pp_1 := pp_0.farAll (g' := w.heap.size) (by omega) [.int .u64 ((H : Nat) : Int), .int .u64 ((L : Nat) : Int)]
 have pr_7 := pr_6.setAll [.int .u64 ((H : Nat) : Int), .int .u64 ((L : Nat) : Int)] rfl
 simp only [setAll, Nat.zero_add] at hB_8 pr_7 pp_1
 clear hB_7 pp_0 pr_6
 generalize (World.setCell (World.setCell w7 ⟨w.heap.size, 0, none⟩ (.int .u64 ((H : Nat) : Int))) ⟨w.heap.size, 1, none⟩ (.int .u64 ((L : Nat) : Int))) = w8 at *
 go_wp2
 obtain ⟨pre0, pre1, pre2, pre3⟩ := pr_7.open2
 exact bodyPost_ret (v := .agg #[.int .u64 ((H : Nat) : Int), .int .u64 ((L : Nat) : Int)]) (by simp [results, Try.results73, go_sem, pre0, pre1]) rfl ⟨rfl, hB_8⟩
set_option maxHeartbeats 4000000 in
theorem wMul_w_tf (a b : Int) (ha1 : -9223372036854775808 ≤ a) (ha2 : a < 9223372036854775808) (hb1 : -9223372036854775808 ≤ b) (hb2 : b < 9223372036854775808) (H L H' L' : Nat) (sa : a < 0) (sb : ¬ b < 0) (cm : ∀ w, Calls Try.prog 80 #[.int .u64 ((wl ((a.natAbs : Int)) : Nat) : Int), .int .u64 ((wl ((b.natAbs : Int)) : Nat) : Int)] w fun e w' => e = .returned (.tuple #[.int .u64 ((H : Nat) : Int), .int .u64 ((L : Nat) : Int)]) ∧ Below w.heap.size w w') (hac : ∀ w, Calls Try.prog 83 #[.agg #[.int .u64 ((H : Nat) : Int), .int .u64 ((L : Nat) : Int)]] w fun e w' => e = .returned (.agg #[.int .u64 ((H' : Nat) : Int), .int .u64 ((L' : Nat) : Int)]) ∧ Below w.heap.size w w') (w : World) :
  Calls Try.prog 73 #[.int .i64 a, .int .i64 b] w fun e w' => e = .returned (.agg #[.int .u64 ((H' : Nat) : Int), .int .u64 ((L' : Nat) : Int)]) ∧ Below w.heap.size w w' := by
 have hB_0 := Below.refl w.heap.size w
 have CM := Lib.hid cm; have CA := Lib.hid hac; have IA := Lib.hid (inW_int ha1 ha2); have IB := Lib.hid (inW_int hb1 hb2); have HA1 := Lib.hid ha1; have HA2 := Lib.hid ha2; have HB1 := Lib.hid hb1; have HB2 := Lib.hid hb2
 clear cm hac ha1 ha2 hb1 hb2
 have qa : decide (a < 0) = true := by simp [sa]
 have qb : decide (b < 0) = false := by simp [sb]
 clear sa sb
 have hfa : ∀ w : World, (Instr.field 99 (.agg #[.int .u64 ((wh ((a.natAbs : Int)) : Nat) : Int), .int .u64 ((wl ((a.natAbs : Int)) : Nat) : Int)]) 1).run Try.prog w = .ok (.int .u64 ((wl ((a.natAbs : Int)) : Nat) : Int)) w := fun _ => by kernel_rfl
 have hfb : ∀ w : World, (Instr.field 99 (.agg #[.int .u64 ((wh ((b.natAbs : Int)) : Nat) : Int), .int .u64 ((wl ((b.natAbs : Int)) : Nat) : Int)]) 1).run Try.prog w = .ok (.int .u64 ((wl ((b.natAbs : Int)) : Nat) : Int)) w := fun _ => by kernel_rfl
 obtain ⟨w1, hw1, pr_0, hb1, hs1⟩ := new_box w (w.heap.size) rfl [.int .u64 0, .int .u64 0] 99
 have hb1' : Below w.heap.size w w1 := hb1.mono (by omega)
 clear hb1
 have hB_1 := hB_0.trans (hb1'.mono hB_0.size)
 clear hb1' hB_0
 go_enter Try.func73, Try.ntmps73
 obtain ⟨pre0, pre1, pre2, pre3⟩ := pr_0.open2
 go_wp2_with fail
 refine (wOf_any a HA1.out HA2.out _).mono ?_
 rintro e w2 ⟨rfl, hb2⟩
 clear pre0 pre1 pre2 pre3
 have hB_2 := hB_1.trans (hb2.mono hB_1.size)
 have pr_1 := pr_0.below hb2
 clear hb2 hB_1 pr_0
 obtain ⟨pre0, pre1, pre2, pre3⟩ := pr_1.open2
 go_wp2_with fail
 refine (size_any a _ IA.out).mono ?_
 rintro e w3 ⟨rfl, hb3⟩
 clear pre0 pre1 pre2 pre3
 have hB_3 := hB_2.trans (hb3.mono hB_2.size)
 have pr_2 := pr_1.below hb3
 clear hb3 hB_2 pr_1
 obtain ⟨pre0, pre1, pre2, pre3⟩ := pr_2.open2
 go_wp2_with fail
 refine (wOf_any b HB1.out HB2.out _).mono ?_
 rintro e w4 ⟨rfl, hb4⟩
 clear pre0 pre1 pre2 pre3
 have hB_4 := hB_3.trans (hb4.mono hB_3.size)
 have pr_3 := pr_2.below hb4
 clear hb4 hB_3 pr_2
 obtain ⟨pre0, pre1, pre2, pre3⟩ := pr_3.open2
 go_wp2_with fail
 refine (size_any b _ IB.out).mono ?_
 rintro e w5 ⟨rfl, hb5⟩
 clear pre0 pre1 pre2 pre3
 have hB_5 := hB_4.trans (hb5.mono hB_4.size)
 have pr_4 := pr_3.below hb5
 clear hb5 hB_4 pr_3
 obtain ⟨pre0, pre1, pre2, pre3⟩ := pr_4.open2
 go_wp2_with fail
 refine (CM.out _).mono ?_
 rintro e w6 ⟨rfl, hb6⟩
 clear pre0 pre1 pre2 pre3
 have hB_6 := hB_5.trans (hb6.mono hB_5.size)
 have pr_5 := pr_4.below hb6
 clear hb6 hB_5 pr_4
 obtain ⟨pre0, pre1, pre2, pre3⟩ := pr_5.open2
 clear pre0 pre1 pre2 pre3
 have hl1pr := pr_5.lt
 have hl1B := hB_6.size
 obtain ⟨w7, hw7, pp_0, hb7, hs7⟩ := new_box w6 (w6.heap.size) rfl [.int .u64 ((H : Nat) : Int), .int .u64 ((L : Nat) : Int)] 99
 have hb7' : Below w6.heap.size w6 w7 := hb7.mono (by omega)
 clear hb7
 have hB_7 := hB_6.trans (hb7'.mono hB_6.size)
 have pr_6 := pr_5.below hb7'
 clear hb7' hB_6 pr_5
 obtain ⟨pre0, pre1, pre2, pre3⟩ := pr_6.open2
 obtain ⟨ppe0, ppe1, ppe2, ppe3⟩ := pp_0.open2
 go_wp2_with fail
 refine (CA.out _).mono ?_
 rintro e w8 ⟨rfl, hb8⟩
 clear pre0 pre1 pre2 pre3 ppe0 ppe1 ppe2 ppe3
 have hB_8 := hB_7.trans (hb8.mono hB_7.size)
 have pr_7 := pr_6.below hb8
 have pp_1 := pp_0.below hb8
 clear hb8 hB_7 pr_6 pp_0
 obtain ⟨pre0, pre1, pre2, pre3⟩ := pr_7.open2
 obtain ⟨ppe0, ppe1, ppe2, ppe3⟩ := pp_1.open2
 obtain ⟨sf1a, sf1b, sf1c, sf1d⟩ := pr_7.open2
 obtain ⟨sg1a, sg1b⟩ := Box.put2 pr_7 (.int .u64 ((H' : Nat) : Int))
 go_wp2
 clear pre0 pre1 pre2 pre3 ppe0 ppe1 ppe2 ppe3 sf1a sf1b sf1c sf1d sg1a sg1b
 have hB_9 := below_setAll hB_8 (g := w.heap.size) (by omega) [.int .u64 ((H' : Nat) : Int), .int .u64 ((L' : Nat) : Int)]
 have pp_2 := pp_1.farAll (g' := w.heap.size) (by omega) [.int .u64 ((H' : Nat) : Int), .int .u64 ((L' : Nat) : Int)]
 have pr_8 := pr_7.setAll [.int .u64 ((H' : Nat) : Int), .int .u64 ((L' : Nat) : Int)] rfl
 simp only [setAll, Nat.zero_add] at hB_9 pr_8 pp_2
 clear hB_8 pp_1 pr_7
 generalize (World.setCell (World.setCell w8 ⟨w.heap.size, 0, none⟩ (.int .u64 ((H' : Nat) : Int))) ⟨w.heap.size, 1, none⟩ (.int .u64 ((L' : Nat) : Int))) = w9 at *
 go_wp2
 obtain ⟨pre0, pre1, pre2, pre3⟩ := pr_8.open2
 exact bodyPost_ret (v := .agg #[.int .u64 ((H' : Nat) : Int), .int .u64 ((L' : Nat) : Int)]) (by simp [results, Try.results73, go_sem, pre0, pre1]) rfl ⟨rfl, hB_9⟩
set_option maxHeartbeats 4000000 in
theorem wMul_w_ft (a b : Int) (ha1 : -9223372036854775808 ≤ a) (ha2 : a < 9223372036854775808) (hb1 : -9223372036854775808 ≤ b) (hb2 : b < 9223372036854775808) (H L H' L' : Nat) (sa : ¬ a < 0) (sb : b < 0) (cm : ∀ w, Calls Try.prog 80 #[.int .u64 ((wl ((a.natAbs : Int)) : Nat) : Int), .int .u64 ((wl ((b.natAbs : Int)) : Nat) : Int)] w fun e w' => e = .returned (.tuple #[.int .u64 ((H : Nat) : Int), .int .u64 ((L : Nat) : Int)]) ∧ Below w.heap.size w w') (hac : ∀ w, Calls Try.prog 83 #[.agg #[.int .u64 ((H : Nat) : Int), .int .u64 ((L : Nat) : Int)]] w fun e w' => e = .returned (.agg #[.int .u64 ((H' : Nat) : Int), .int .u64 ((L' : Nat) : Int)]) ∧ Below w.heap.size w w') (w : World) :
  Calls Try.prog 73 #[.int .i64 a, .int .i64 b] w fun e w' => e = .returned (.agg #[.int .u64 ((H' : Nat) : Int), .int .u64 ((L' : Nat) : Int)]) ∧ Below w.heap.size w w' := by
 have hB_0 := Below.refl w.heap.size w
 have CM := Lib.hid cm; have CA := Lib.hid hac; have IA := Lib.hid (inW_int ha1 ha2); have IB := Lib.hid (inW_int hb1 hb2); have HA1 := Lib.hid ha1; have HA2 := Lib.hid ha2; have HB1 := Lib.hid hb1; have HB2 := Lib.hid hb2
 clear cm hac ha1 ha2 hb1 hb2
 have qa : decide (a < 0) = false := by simp [sa]
 have qb : decide (b < 0) = true := by simp [sb]
 clear sa sb
 have hfa : ∀ w : World, (Instr.field 99 (.agg #[.int .u64 ((wh ((a.natAbs : Int)) : Nat) : Int), .int .u64 ((wl ((a.natAbs : Int)) : Nat) : Int)]) 1).run Try.prog w = .ok (.int .u64 ((wl ((a.natAbs : Int)) : Nat) : Int)) w := fun _ => by kernel_rfl
 have hfb : ∀ w : World, (Instr.field 99 (.agg #[.int .u64 ((wh ((b.natAbs : Int)) : Nat) : Int), .int .u64 ((wl ((b.natAbs : Int)) : Nat) : Int)]) 1).run Try.prog w = .ok (.int .u64 ((wl ((b.natAbs : Int)) : Nat) : Int)) w := fun _ => by kernel_rfl
 obtain ⟨w1, hw1, pr_0, hb1, hs1⟩ := new_box w (w.heap.size) rfl [.int .u64 0, .int .u64 0] 99
 have hb1' : Below w.heap.size w w1 := hb1.mono (by omega)
 clear hb1
 have hB_1 := hB_0.trans (hb1'.mono hB_0.size)
 clear hb1' hB_0
 go_enter Try.func73, Try.ntmps73
 obtain ⟨pre0, pre1, pre2, pre3⟩ := pr_0.open2
 go_wp2_with fail
 refine (wOf_any a HA1.out HA2.out _).mono ?_
 rintro e w2 ⟨rfl, hb2⟩
 clear pre0 pre1 pre2 pre3
 have hB_2 := hB_1.trans (hb2.mono hB_1.size)
 have pr_1 := pr_0.below hb2
 clear hb2 hB_1 pr_0
 obtain ⟨pre0, pre1, pre2, pre3⟩ := pr_1.open2
 go_wp2_with fail
 refine (size_any a _ IA.out).mono ?_
 rintro e w3 ⟨rfl, hb3⟩
 clear pre0 pre1 pre2 pre3
 have hB_3 := hB_2.trans (hb3.mono hB_2.size)
 have pr_2 := pr_1.below hb3
 clear hb3 hB_2 pr_1
 obtain ⟨pre0, pre1, pre2, pre3⟩ := pr_2.open2
 go_wp2_with fail
 refine (wOf_any b HB1.out HB2.out _).mono ?_
 rintro e w4 ⟨rfl, hb4⟩
 clear pre0 pre1 pre2 pre3
 have hB_4 := hB_3.trans (hb4.mono hB_3.size)
 have pr_3 := pr_2.below hb4
 clear hb4 hB_3 pr_2
 obtain ⟨pre0, pre1, pre2, pre3⟩ := pr_3.open2
 go_wp2_with fail
 refine (size_any b _ IB.out).mono ?_
 rintro e w5 ⟨rfl, hb5⟩
 clear pre0 pre1 pre2 pre3
 have hB_5 := hB_4.trans (hb5.mono hB_4.size)
 have pr_4 := pr_3.below hb5
 clear hb5 hB_4 pr_3
 obtain ⟨pre0, pre1, pre2, pre3⟩ := pr_4.open2
 go_wp2_with fail
 refine (CM.out _).mono ?_
 rintro e w6 ⟨rfl, hb6⟩
 clear pre0 pre1 pre2 pre3
 have hB_6 := hB_5.trans (hb6.mono hB_5.size)
 have pr_5 := pr_4.below hb6
 clear hb6 hB_5 pr_4
 obtain ⟨pre0, pre1, pre2, pre3⟩ := pr_5.open2
 clear pre0 pre1 pre2 pre3
 have hl1pr := pr_5.lt
 have hl1B := hB_6.size
 obtain ⟨w7, hw7, pp_0, hb7, hs7⟩ := new_box w6 (w6.heap.size) rfl [.int .u64 ((H : Nat) : Int), .int .u64 ((L : Nat) : Int)] 99
 have hb7' : Below w6.heap.size w6 w7 := hb7.mono (by omega)
 clear hb7
 have hB_7 := hB_6.trans (hb7'.mono hB_6.size)
 have pr_6 := pr_5.below hb7'
 clear hb7' hB_6 pr_5
 obtain ⟨pre0, pre1, pre2, pre3⟩ := pr_6.open2
 obtain ⟨ppe0, ppe1, ppe2, ppe3⟩ := pp_0.open2
 go_wp2_with fail
 refine (CA.out _).mono ?_
 rintro e w8 ⟨rfl, hb8⟩
 clear pre0 pre1 pre2 pre3 ppe0 ppe1 ppe2 ppe3
 have hB_8 := hB_7.trans (hb8.mono hB_7.size)
 have pr_7 := pr_6.below hb8
 have pp_1 := pp_0.below hb8
 clear hb8 hB_7 pr_6 pp_0
 obtain ⟨pre0, pre1, pre2, pre3⟩ := pr_7.open2
 obtain ⟨ppe0, ppe1, ppe2, ppe3⟩ := pp_1.open2
 obtain ⟨sf1a, sf1b, sf1c, sf1d⟩ := pr_7.open2
 obtain ⟨sg1a, sg1b⟩ := Box.put2 pr_7 (.int .u64 ((H' : Nat) : Int))
 go_wp2
 clear pre0 pre1 pre2 pre3 ppe0 ppe1 ppe2 ppe3 sf1a sf1b sf1c sf1d sg1a sg1b
 have hB_9 := below_setAll hB_8 (g := w.heap.size) (by omega) [.int .u64 ((H' : Nat) : Int), .int .u64 ((L' : Nat) : Int)]
 have pp_2 := pp_1.farAll (g' := w.heap.size) (by omega) [.int .u64 ((H' : Nat) : Int), .int .u64 ((L' : Nat) : Int)]
 have pr_8 := pr_7.setAll [.int .u64 ((H' : Nat) : Int), .int .u64 ((L' : Nat) : Int)] rfl
 simp only [setAll, Nat.zero_add] at hB_9 pr_8 pp_2
 clear hB_8 pp_1 pr_7
 generalize (World.setCell (World.setCell w8 ⟨w.heap.size, 0, none⟩ (.int .u64 ((H' : Nat) : Int))) ⟨w.heap.size, 1, none⟩ (.int .u64 ((L' : Nat) : Int))) = w9 at *
 go_wp2
 obtain ⟨pre0, pre1, pre2, pre3⟩ := pr_8.open2
 exact bodyPost_ret (v := .agg #[.int .u64 ((H' : Nat) : Int), .int .u64 ((L' : Nat) : Int)]) (by simp [results, Try.results73, go_sem, pre0, pre1]) rfl ⟨rfl, hB_9⟩
set_option maxHeartbeats 4000000 in
theorem wMul_w_ff (a b : Int) (ha1 : -9223372036854775808 ≤ a) (ha2 : a < 9223372036854775808) (hb1 : -9223372036854775808 ≤ b) (hb2 : b < 9223372036854775808) (H L H' L' : Nat) (sa : ¬ a < 0) (sb : ¬ b < 0) (cm : ∀ w, Calls Try.prog 80 #[.int .u64 ((wl ((a.natAbs : Int)) : Nat) : Int), .int .u64 ((wl ((b.natAbs : Int)) : Nat) : Int)] w fun e w' => e = .returned (.tuple #[.int .u64 ((H : Nat) : Int), .int .u64 ((L : Nat) : Int)]) ∧ Below w.heap.size w w') (hac : ∀ w, Calls Try.prog 83 #[.agg #[.int .u64 ((H : Nat) : Int), .int .u64 ((L : Nat) : Int)]] w fun e w' => e = .returned (.agg #[.int .u64 ((H' : Nat) : Int), .int .u64 ((L' : Nat) : Int)]) ∧ Below w.heap.size w w') (w : World) :
  Calls Try.prog 73 #[.int .i64 a, .int .i64 b] w fun e w' => e = .returned (.agg #[.int .u64 ((H : Nat) : Int), .int .u64 ((L : Nat) : Int)]) ∧ Below w.heap.size w w' := by
 have hB_0 := Below.refl w.heap.size w
 have CM := Lib.hid cm; have CA := Lib.hid hac; have IA := Lib.hid (inW_int ha1 ha2); have IB := Lib.hid (inW_int hb1 hb2); have HA1 := Lib.hid ha1; have HA2 := Lib.hid ha2; have HB1 := Lib.hid hb1; have HB2 := Lib.hid hb2
 clear cm hac ha1 ha2 hb1 hb2
 have qa : decide (a < 0) = false := by simp [sa]
 have qb : decide (b < 0) = false := by simp [sb]
 clear sa sb
 have hfa : ∀ w : World, (Instr.field 99 (.agg #[.int .u64 ((wh ((a.natAbs : Int)) : Nat) : Int), .int .u64 ((wl ((a.natAbs : Int)) : Nat) : Int)]) 1).run Try.prog w = .ok (.int .u64 ((wl ((a.natAbs : Int)) : Nat) : Int)) w := fun _ => by kernel_rfl
 have hfb : ∀ w : World, (Instr.field 99 (.agg #[.int .u64 ((wh ((b.natAbs : Int)) : Nat) : Int), .int .u64 ((wl ((b.natAbs : Int)) : Nat) : Int)]) 1).run Try.prog w = .ok (.int .u64 ((wl ((b.natAbs : Int)) : Nat) : Int)) w := fun _ => by kernel_rfl
 obtain ⟨w1, hw1, pr_0, hb1, hs1⟩ := new_box w (w.heap.size) rfl [.int .u64 0, .int .u64 0] 99
 have hb1' : Below w.heap.size w w1 := hb1.mono (by omega)
 clear hb1
 have hB_1 := hB_0.trans (hb1'.mono hB_0.size)
 clear hb1' hB_0
 go_enter Try.func73, Try.ntmps73
 obtain ⟨pre0, pre1, pre2, pre3⟩ := pr_0.open2
 go_wp2_with fail
 refine (wOf_any a HA1.out HA2.out _).mono ?_
 rintro e w2 ⟨rfl, hb2⟩
 clear pre0 pre1 pre2 pre3
 have hB_2 := hB_1.trans (hb2.mono hB_1.size)
 have pr_1 := pr_0.below hb2
 clear hb2 hB_1 pr_0
 obtain ⟨pre0, pre1, pre2, pre3⟩ := pr_1.open2
 go_wp2_with fail
 refine (size_any a _ IA.out).mono ?_
 rintro e w3 ⟨rfl, hb3⟩
 clear pre0 pre1 pre2 pre3
 have hB_3 := hB_2.trans (hb3.mono hB_2.size)
 have pr_2 := pr_1.below hb3
 clear hb3 hB_2 pr_1
 obtain ⟨pre0, pre1, pre2, pre3⟩ := pr_2.open2
 go_wp2_with fail
 refine (wOf_any b HB1.out HB2.out _).mono ?_
 rintro e w4 ⟨rfl, hb4⟩
 clear pre0 pre1 pre2 pre3
 have hB_4 := hB_3.trans (hb4.mono hB_3.size)
 have pr_3 := pr_2.below hb4
 clear hb4 hB_3 pr_2
 obtain ⟨pre0, pre1, pre2, pre3⟩ := pr_3.open2
 go_wp2_with fail
 refine (size_any b _ IB.out).mono ?_
 rintro e w5 ⟨rfl, hb5⟩
 clear pre0 pre1 pre2 pre3
 have hB_5 := hB_4.trans (hb5.mono hB_4.size)
 have pr_4 := pr_3.below hb5
 clear hb5 hB_4 pr_3
 obtain ⟨pre0, pre1, pre2, pre3⟩ := pr_4.open2
 go_wp2_with fail
 refine (CM.out _).mono ?_
 rintro e w6 ⟨rfl, hb6⟩
 clear pre0 pre1 pre2 pre3
 have hB_6 := hB_5.trans (hb6.mono hB_5.size)
 have pr_5 := pr_4.below hb6
 clear hb6 hB_5 pr_4
 obtain ⟨pre0, pre1, pre2, pre3⟩ := pr_5.open2
 clear pre0 pre1 pre2 pre3
 have hl1pr := pr_5.lt
 have hl1B := hB_6.size
 obtain ⟨w7, hw7, pp_0, hb7, hs7⟩ := new_box w6 (w6.heap.size) rfl [.int .u64 ((H : Nat) : Int), .int .u64 ((L : Nat) : Int)] 99
 have hb7' : Below w6.heap.size w6 w7 := hb7.mono (by omega)
 clear hb7
 have hB_7 := hB_6.trans (hb7'.mono hB_6.size)
 have pr_6 := pr_5.below hb7'
 clear hb7' hB_6 pr_5
 obtain ⟨pre0, pre1, pre2, pre3⟩ := pr_6.open2
 obtain ⟨ppe0, ppe1, ppe2, ppe3⟩ := pp_0.open2
 obtain ⟨sf1a, sf1b, sf1c, sf1d⟩ := pr_6.open2
 obtain ⟨sg1a, sg1b⟩ := Box.put2 pr_6 (.int .u64 ((H : Nat) : Int))
 go_wp2
 clear pre0 pre1 pre2 pre3 ppe0 ppe1 ppe2 ppe3 sf1a sf1b sf1c sf1d sg1a sg1b
 have hB_8 := below_setAll hB_7 (g := w.heap.size) (by omega) [.int .u64 ((H : Nat) : Int), .int .u64 ((L : Nat) : Int)]
 have pp_1 := pp_0.farAll (g' := w.heap.size) (by omega) [.int .u64 ((H : Nat) : Int), .int .u64 ((L : Nat) : Int)]
 have pr_7 := pr_6.setAll [.int .u64 ((H : Nat) : Int), .int .u64 ((L : Nat) : Int)] rfl
 simp only [setAll, Nat.zero_add] at hB_8 pr_7 pp_1
 clear hB_7 pp_0 pr_6
 generalize (World.setCell (World.setCell w7 ⟨w.heap.size, 0, none⟩ (.int .u64 ((H : Nat) : Int))) ⟨w.heap.size, 1, none⟩ (.int .u64 ((L : Nat) : Int))) = w8 at *
 go_wp2
 obtain ⟨pre0, pre1, pre2, pre3⟩ := pr_7.open2
 exact bodyPost_ret (v := .agg #[.int .u64 ((H : Nat) : Int), .int .u64 ((L : Nat) : Int)]) (by simp [results, Try.results73, go_sem, pre0, pre1]) rfl ⟨rfl, hB_8⟩
theorem wMul_any (a b : Int) (ha1 : -9223372036854775808 ≤ a) (ha2 : a < 9223372036854775808) (hb1 : -9223372036854775808 ≤ b) (hb2 : b < 9223372036854775808) (w : World) :
  Calls Try.prog 73 #[.int .i64 a, .int .i64 b] w fun e w' => AnsW w w' e (a * b) := by
 obtain ⟨ea, la⟩ := w_abs_int ha1 ha2
 obtain ⟨eb, lb⟩ := w_abs_int hb1 hb2
 obtain ⟨x, hx⟩ : ∃ x : Int, x = ((a.natAbs * b.natAbs : Nat) : Int) := ⟨_, rfl⟩
 have hlt : a.natAbs * b.natAbs < B * B := Nat.mul_lt_mul'' la lb
 have hw := w_mod x
 have h1 := wh_lt x; have h2 := wl_lt x
 have q1 : a.natAbs * b.natAbs / B = wh x := by
  simp only [B_eq] at *; omega
 have q2 : a.natAbs * b.natAbs % B = wl x := by
  simp only [B_eq] at *; omega
 have cm := fun w => mul64_is a.natAbs b.natAbs (wh x) (wl x) w la lb q1 q2
 rw [← ea, ← eb] at cm
 have hac := fun w => across_any x w
 have hm : ((a.natAbs * b.natAbs : Nat) : Int) = (a.natAbs : Int) * (b.natAbs : Int) := Int.natCast_mul _ _
 by_cases sa : a < 0 <;> by_cases sb : b < 0
 ·have e : a * b = x := by
   rw [hx, hm, show (a.natAbs : Int) = -a by omega, show (b.natAbs : Int) = -b by omega]; simp [Int.neg_mul, Int.mul_neg]
  rw [e]; exact wMul_w_tt a b ha1 ha2 hb1 hb2 _ _ _ _ sa sb cm hac w
 ·have e : a * b = -x := by
   rw [hx, hm, show (a.natAbs : Int) = -a by omega, show (b.natAbs : Int) = b by omega]; simp [Int.neg_mul]
  rw [e]; exact wMul_w_tf a b ha1 ha2 hb1 hb2 _ _ _ _ sa sb cm hac w
 ·have e : a * b = -x := by
   rw [hx, hm, show (a.natAbs : Int) = a by omega, show (b.natAbs : Int) = -b by omega]; simp [Int.mul_neg]
  rw [e]; exact wMul_w_ft a b ha1 ha2 hb1 hb2 _ _ _ _ sa sb cm hac w
 ·have e : a * b = x := by
   rw [hx, hm, show (a.natAbs : Int) = a by omega, show (b.natAbs : Int) = b by omega]
  rw [e]; exact wMul_w_ff a b ha1 ha2 hb1 hb2 _ _ _ _ sa sb cm hac w
set_option maxHeartbeats 4000000 in
theorem wDet_w (a b c d x y : Int) (c1 : ∀ w, Calls Try.prog 73 #[.int .i64 a, .int .i64 d] w fun e w' => AnsW w w' e x) (c2 : ∀ w, Calls Try.prog 73 #[.int .i64 b, .int .i64 c] w fun e w' => AnsW w w' e y) (w : World) :
  Calls Try.prog 60 #[.int .i64 a, .int .i64 b, .int .i64 c, .int .i64 d] w fun e w' => AnsW w w' e (x - y) := by
 have hB_0 := Below.refl w.heap.size w
 have C1 := Lib.hid c1; have C2 := Lib.hid c2
 clear c1 c2
 obtain ⟨w1, hw1, pr_0, hb1, hs1⟩ := new_box w (w.heap.size) rfl [.int .u64 0, .int .u64 0] 99
 have hb1' : Below w.heap.size w w1 := hb1.mono (by omega)
 clear hb1
 have hB_1 := hB_0.trans (hb1'.mono hB_0.size)
 clear hb1' hB_0
 go_enter Try.func60, Try.ntmps60
 obtain ⟨pre0, pre1, pre2, pre3⟩ := pr_0.open2
 go_wp2_with fail
 refine (C1.out _).mono ?_
 rintro e w2 ⟨rfl, hb2⟩
 clear pre0 pre1 pre2 pre3
 have hB_2 := hB_1.trans (hb2.mono hB_1.size)
 have pr_1 := pr_0.below hb2
 clear hb2 hB_1 pr_0
 obtain ⟨pre0, pre1, pre2, pre3⟩ := pr_1.open2
 go_wp2_with fail
 refine (C2.out _).mono ?_
 rintro e w3 ⟨rfl, hb3⟩
 clear pre0 pre1 pre2 pre3
 have hB_3 := hB_2.trans (hb3.mono hB_2.size)
 have pr_2 := pr_1.below hb3
 clear hb3 hB_2 pr_1
 obtain ⟨pre0, pre1, pre2, pre3⟩ := pr_2.open2
 go_wp2_with fail
 refine (less_any x y _).mono ?_
 rintro e w4 ⟨rfl, hb4⟩
 clear pre0 pre1 pre2 pre3
 have hB_4 := hB_3.trans (hb4.mono hB_3.size)
 have pr_3 := pr_2.below hb4
 clear hb4 hB_3 pr_2
 obtain ⟨pre0, pre1, pre2, pre3⟩ := pr_3.open2
 obtain ⟨sf1a, sf1b, sf1c, sf1d⟩ := pr_3.open2
 obtain ⟨sg1a, sg1b⟩ := Box.put2 pr_3 (.int .u64 ((wh (x - y) : Nat) : Int))
 go_wp2
 clear pre0 pre1 pre2 pre3 sf1a sf1b sf1c sf1d sg1a sg1b
 have hB_5 := below_setAll hB_4 (g := w.heap.size) (by omega) [.int .u64 ((wh (x - y) : Nat) : Int), .int .u64 ((wl (x - y) : Nat) : Int)]
 have pr_4 := pr_3.setAll [.int .u64 ((wh (x - y) : Nat) : Int), .int .u64 ((wl (x - y) : Nat) : Int)] rfl
 simp only [setAll, Nat.zero_add] at hB_5 pr_4
 clear hB_4 pr_3
 generalize (World.setCell (World.setCell w4 ⟨w.heap.size, 0, none⟩ (.int .u64 ((wh (x - y) : Nat) : Int))) ⟨w.heap.size, 1, none⟩ (.int .u64 ((wl (x - y) : Nat) : Int))) = w5 at *
 go_wp2
 obtain ⟨pre0, pre1, pre2, pre3⟩ := pr_4.open2
 exact bodyPost_ret (v := .agg #[.int .u64 ((wh (x - y) : Nat) : Int), .int .u64 ((wl (x - y) : Nat) : Int)]) (by simp [results, Try.results60, go_sem, pre0, pre1]) rfl ⟨rfl, hB_5⟩
theorem wDet_any (a b c d : Int) (ha1 : -9223372036854775808 ≤ a) (ha2 : a < 9223372036854775808) (hb1 : -9223372036854775808 ≤ b) (hb2 : b < 9223372036854775808) (hc1 : -9223372036854775808 ≤ c) (hc2 : c < 9223372036854775808) (hd1 : -9223372036854775808 ≤ d) (hd2 : d < 9223372036854775808) (w : World) :
  Calls Try.prog 60 #[.int .i64 a, .int .i64 b, .int .i64 c, .int .i64 d] w fun e w' => AnsW w w' e (a * d - b * c) :=
 wDet_w a b c d _ _ (fun w => wMul_any a d ha1 ha2 hd1 hd2 w) (fun w => wMul_any b c hb1 hb2 hc1 hc2 w) w
end Go.Proofs.Ytecnnpkpgbbfkaa
/- The calls of pred: turn, Orient, Area2, Dist2. -/
namespace Go.Proofs.Ytecnnpkpgbbfkaa
open Go.RowKit Go.MagM
set_option maxHeartbeats 4000000 in
theorem turn_w (a0 a1 b0 b1 v0 v1 : Int) (p q r s z : Int) (e1 : IntKind.i64.wrap (b0 - a0) = p) (e2 : IntKind.i64.wrap (b1 - a1) = q) (e3 : IntKind.i64.wrap (v0 - a0) = r) (e4 : IntKind.i64.wrap (v1 - a1) = s) (cd : ∀ w, Calls Try.prog 60 #[.int .i64 p, .int .i64 q, .int .i64 r, .int .i64 s] w fun e w' => AnsW w w' e z) (w : World) :
  Calls Try.prog 54 #[.agg #[.int .i64 a0, .int .i64 a1], .agg #[.int .i64 b0, .int .i64 b1], .agg #[.int .i64 v0, .int .i64 v1]] w fun e w' => AnsW w w' e z := by
 have hB_0 := Below.refl w.heap.size w
 have CD := Lib.hid cd
 clear cd
 obtain ⟨w1, hw1, pa_0, hb1, hs1⟩ := new_box w (w.heap.size) rfl [.int .i64 a0, .int .i64 a1] 62
 have hb1' : Below w.heap.size w w1 := hb1.mono (by omega)
 clear hb1
 have hB_1 := hB_0.trans (hb1'.mono hB_0.size)
 clear hb1' hB_0
 obtain ⟨w2, hw2, pb_0, hb2, hs2⟩ := new_box w1 (w.heap.size + 1) hs1 [.int .i64 b0, .int .i64 b1] 62
 have hb2' : Below w1.heap.size w1 w2 := hb2.mono (by omega)
 clear hb2
 have hB_2 := hB_1.trans (hb2'.mono hB_1.size)
 have pa_1 := pa_0.below hb2'
 clear hb2' hB_1 pa_0
 obtain ⟨w3, hw3, pv_0, hb3, hs3⟩ := new_box w2 (w.heap.size + 1 + 1) hs2 [.int .i64 v0, .int .i64 v1] 62
 have hb3' : Below w2.heap.size w2 w3 := hb3.mono (by omega)
 clear hb3
 have hB_3 := hB_2.trans (hb3'.mono hB_2.size)
 have pa_2 := pa_1.below hb3'
 have pb_1 := pb_0.below hb3'
 clear hb3' hB_2 pa_1 pb_0
 obtain ⟨w4, hw4, pr_0, hb4, hs4⟩ := new_box w3 (w.heap.size + 1 + 1 + 1) hs3 [.int .u64 0, .int .u64 0] 99
 have hb4' : Below w3.heap.size w3 w4 := hb4.mono (by omega)
 clear hb4
 have hB_4 := hB_3.trans (hb4'.mono hB_3.size)
 have pa_3 := pa_2.below hb4'
 have pb_2 := pb_1.below hb4'
 have pv_1 := pv_0.below hb4'
 clear hb4' hB_3 pa_2 pb_1 pv_0
 go_enter Try.func54, Try.ntmps54
 obtain ⟨pae0, pae1, pae2, pae3⟩ := pa_3.open2
 obtain ⟨pbe0, pbe1, pbe2, pbe3⟩ := pb_2.open2
 obtain ⟨pve0, pve1, pve2, pve3⟩ := pv_1.open2
 obtain ⟨pre0, pre1, pre2, pre3⟩ := pr_0.open2
 go_wp2_with fail
 refine (CD.out _).mono ?_
 rintro e w5 ⟨rfl, hb5⟩
 clear pae0 pae1 pae2 pae3 pbe0 pbe1 pbe2 pbe3 pve0 pve1 pve2 pve3 pre0 pre1 pre2 pre3
 have hB_5 := hB_4.trans (hb5.mono hB_4.size)
 have pa_4 := pa_3.below hb5
 have pb_3 := pb_2.below hb5
 have pv_2 := pv_1.below hb5
 have pr_1 := pr_0.below hb5
 clear hb5 hB_4 pa_3 pb_2 pv_1 pr_0
 obtain ⟨pae0, pae1, pae2, pae3⟩ := pa_4.open2
 obtain ⟨pbe0, pbe1, pbe2, pbe3⟩ := pb_3.open2
 obtain ⟨pve0, pve1, pve2, pve3⟩ := pv_2.open2
 obtain ⟨pre0, pre1, pre2, pre3⟩ := pr_1.open2
 obtain ⟨sf1a, sf1b, sf1c, sf1d⟩ := pr_1.open2
 obtain ⟨sg1a, sg1b⟩ := Box.put2 pr_1 (.int .u64 ((wh (z) : Nat) : Int))
 go_wp2
 clear pae0 pae1 pae2 pae3 pbe0 pbe1 pbe2 pbe3 pve0 pve1 pve2 pve3 pre0 pre1 pre2 pre3 sf1a sf1b sf1c sf1d sg1a sg1b
 have hB_6 := below_setAll hB_5 (g := w.heap.size + 1 + 1 + 1) (by omega) [.int .u64 ((wh (z) : Nat) : Int), .int .u64 ((wl (z) : Nat) : Int)]
 have pa_5 := pa_4.farAll (g' := w.heap.size + 1 + 1 + 1) (by omega) [.int .u64 ((wh (z) : Nat) : Int), .int .u64 ((wl (z) : Nat) : Int)]
 have pb_4 := pb_3.farAll (g' := w.heap.size + 1 + 1 + 1) (by omega) [.int .u64 ((wh (z) : Nat) : Int), .int .u64 ((wl (z) : Nat) : Int)]
 have pv_3 := pv_2.farAll (g' := w.heap.size + 1 + 1 + 1) (by omega) [.int .u64 ((wh (z) : Nat) : Int), .int .u64 ((wl (z) : Nat) : Int)]
 have pr_2 := pr_1.setAll [.int .u64 ((wh (z) : Nat) : Int), .int .u64 ((wl (z) : Nat) : Int)] rfl
 simp only [setAll, Nat.zero_add] at hB_6 pa_5 pb_4 pv_3 pr_2
 clear hB_5 pa_4 pb_3 pv_2 pr_1
 generalize (World.setCell (World.setCell w5 ⟨w.heap.size + 1 + 1 + 1, 0, none⟩ (.int .u64 ((wh (z) : Nat) : Int))) ⟨w.heap.size + 1 + 1 + 1, 1, none⟩ (.int .u64 ((wl (z) : Nat) : Int))) = w6 at *
 go_wp2
 obtain ⟨pre0, pre1, pre2, pre3⟩ := pr_2.open2
 exact bodyPost_ret (v := .agg #[.int .u64 ((wh (z) : Nat) : Int), .int .u64 ((wl (z) : Nat) : Int)]) (by simp [results, Try.results54, go_sem, pre0, pre1]) rfl ⟨rfl, hB_6⟩
theorem turn_any (a0 a1 b0 b1 v0 v1 : Int) (ha0 : InP a0) (ha1 : InP a1) (hb0 : InP b0) (hb1 : InP b1) (hv0 : InP v0) (hv1 : InP v1) (w : World) :
  Calls Try.prog 54 #[.agg #[.int .i64 a0, .int .i64 a1], .agg #[.int .i64 b0, .int .i64 b1], .agg #[.int .i64 v0, .int .i64 v1]] w fun e w' => AnsW w w' e (crs a0 a1 b0 b1 v0 v1) :=
 turn_w a0 a1 b0 b1 v0 v1 _ _ _ _ _ (hb0.wrap ha0) (hb1.wrap ha1) (hv0.wrap ha0) (hv1.wrap ha1) (fun w => wDet_any _ _ _ _ (hb0.lo ha0) (hb0.hi ha0) (hb1.lo ha1) (hb1.hi ha1) (hv0.lo ha0) (hv0.hi ha0) (hv1.lo ha1) (hv1.hi ha1) w) w
theorem wsgn_is (z : Int) (hz : InW z) (w : World) : Calls Try.prog 53 #[.agg #[.int .u64 ((wh (z) : Nat) : Int), .int .u64 ((wl (z) : Nat) : Int)]] w fun e w' => e = .returned (.int .i64 z.sign) ∧ Below w.heap.size w w' := by
 have := wSign_all z w; rwa [wrapW_self hz] at this
set_option maxHeartbeats 4000000 in
theorem Orient_w (a0 a1 b0 b1 v0 v1 : Int) (z t : Int) (ct : ∀ w, Calls Try.prog 54 #[.agg #[.int .i64 a0, .int .i64 a1], .agg #[.int .i64 b0, .int .i64 b1], .agg #[.int .i64 v0, .int .i64 v1]] w fun e w' => AnsW w w' e z) (cs : ∀ w, Calls Try.prog 53 #[.agg #[.int .u64 ((wh (z) : Nat) : Int), .int .u64 ((wl (z) : Nat) : Int)]] w fun e w' => e = .returned (.int .i64 t) ∧ Below w.heap.size w w') (w : World) :
  Calls Try.prog 43 #[.agg #[.int .i64 a0, .int .i64 a1], .agg #[.int .i64 b0, .int .i64 b1], .agg #[.int .i64 v0, .int .i64 v1]] w fun e w' => e = .returned (.int .i64 t) ∧ Below w.heap.size w w' := by
 have hB_0 := Below.refl w.heap.size w
 have CT := Lib.hid ct; have CS := Lib.hid cs
 clear ct cs
 obtain ⟨w1, hw1, pa_0, hb1, hs1⟩ := new_box w (w.heap.size) rfl [.int .i64 a0, .int .i64 a1] 62
 have hb1' : Below w.heap.size w w1 := hb1.mono (by omega)
 clear hb1
 have hB_1 := hB_0.trans (hb1'.mono hB_0.size)
 clear hb1' hB_0
 obtain ⟨w2, hw2, pb_0, hb2, hs2⟩ := new_box w1 (w.heap.size + 1) hs1 [.int .i64 b0, .int .i64 b1] 62
 have hb2' : Below w1.heap.size w1 w2 := hb2.mono (by omega)
 clear hb2
 have hB_2 := hB_1.trans (hb2'.mono hB_1.size)
 have pa_1 := pa_0.below hb2'
 clear hb2' hB_1 pa_0
 obtain ⟨w3, hw3, pv_0, hb3, hs3⟩ := new_box w2 (w.heap.size + 1 + 1) hs2 [.int .i64 v0, .int .i64 v1] 62
 have hb3' : Below w2.heap.size w2 w3 := hb3.mono (by omega)
 clear hb3
 have hB_3 := hB_2.trans (hb3'.mono hB_2.size)
 have pa_2 := pa_1.below hb3'
 have pb_1 := pb_0.below hb3'
 clear hb3' hB_2 pa_1 pb_0
 go_enter Try.func43, Try.ntmps43
 obtain ⟨pae0, pae1, pae2, pae3⟩ := pa_2.open2
 obtain ⟨pbe0, pbe1, pbe2, pbe3⟩ := pb_1.open2
 obtain ⟨pve0, pve1, pve2, pve3⟩ := pv_0.open2
 go_wp2_with fail
 refine (CT.out _).mono ?_
 rintro e w4 ⟨rfl, hb4⟩
 clear pae0 pae1 pae2 pae3 pbe0 pbe1 pbe2 pbe3 pve0 pve1 pve2 pve3
 have hB_4 := hB_3.trans (hb4.mono hB_3.size)
 have pa_3 := pa_2.below hb4
 have pb_2 := pb_1.below hb4
 have pv_1 := pv_0.below hb4
 clear hb4 hB_3 pa_2 pb_1 pv_0
 obtain ⟨pae0, pae1, pae2, pae3⟩ := pa_3.open2
 obtain ⟨pbe0, pbe1, pbe2, pbe3⟩ := pb_2.open2
 obtain ⟨pve0, pve1, pve2, pve3⟩ := pv_1.open2
 go_wp2_with fail
 refine (CS.out _).mono ?_
 rintro e w5 ⟨rfl, hb5⟩
 clear pae0 pae1 pae2 pae3 pbe0 pbe1 pbe2 pbe3 pve0 pve1 pve2 pve3
 have hB_5 := hB_4.trans (hb5.mono hB_4.size)
 have pa_4 := pa_3.below hb5
 have pb_3 := pb_2.below hb5
 have pv_2 := pv_1.below hb5
 clear hb5 hB_4 pa_3 pb_2 pv_1
 obtain ⟨pae0, pae1, pae2, pae3⟩ := pa_4.open2
 obtain ⟨pbe0, pbe1, pbe2, pbe3⟩ := pb_3.open2
 obtain ⟨pve0, pve1, pve2, pve3⟩ := pv_2.open2
 go_wp2
 go_ret
 exact ⟨rfl, hB_5⟩
theorem Orient_any (a0 a1 b0 b1 v0 v1 : Int) (ha0 : InP a0) (ha1 : InP a1) (hb0 : InP b0) (hb1 : InP b1) (hv0 : InP v0) (hv1 : InP v1) (w : World) :
  Calls Try.prog 43 #[.agg #[.int .i64 a0, .int .i64 a1], .agg #[.int .i64 b0, .int .i64 b1], .agg #[.int .i64 v0, .int .i64 v1]] w fun e w' => e = .returned (.int .i64 (crs a0 a1 b0 b1 v0 v1).sign) ∧ Below w.heap.size w w' :=
 Orient_w a0 a1 b0 b1 v0 v1 _ _ (fun w => turn_any a0 a1 b0 b1 v0 v1 ha0 ha1 hb0 hb1 hv0 hv1 w) (fun w => wsgn_is _ (inW_crs ha0 ha1 hb0 hb1 hv0 hv1) w) w
theorem Orient_is (a0 a1 b0 b1 v0 v1 : Int) {s : Int} (ha0 : InP a0) (ha1 : InP a1) (hb0 : InP b0) (hb1 : InP b1) (hv0 : InP v0) (hv1 : InP v1) (h : (crs a0 a1 b0 b1 v0 v1).sign = s) (w : World) :
  Calls Try.prog 43 #[.agg #[.int .i64 a0, .int .i64 a1], .agg #[.int .i64 b0, .int .i64 b1], .agg #[.int .i64 v0, .int .i64 v1]] w fun e w' => e = .returned (.int .i64 s) ∧ Below w.heap.size w w' := by subst h; exact Orient_any a0 a1 b0 b1 v0 v1 ha0 ha1 hb0 hb1 hv0 hv1 w
end Go.Proofs.Ytecnnpkpgbbfkaa
/- The calls of pred: within, On, Between, parts, Crosses, Meets. -/
namespace Go.Proofs.Ytecnnpkpgbbfkaa
open Go.RowKit Go.MagM
set_option maxHeartbeats 4000000 in
theorem within_any (n a b : Int) (w : World) :
  Calls Try.prog 61 #[.int .i64 n, .int .i64 a, .int .i64 b] w fun e w' => e = .returned (.bool (decide (min a b ≤ n ∧ n ≤ max a b))) ∧ Below w.heap.size w w' := by
 have hB_0 := Below.refl w.heap.size w
 go_enter Try.func61, Try.ntmps61
 go_wp2
 all_goals go_ret
 all_goals refine ⟨?_, hB_0⟩
 all_goals refine congrArg (fun b => Ending.returned (Value.bool b)) (?_ : _ = _)
 all_goals rw [Bool.eq_iff_iff]
 all_goals simp only [decide_eq_true_eq, Bool.and_eq_true, Bool.false_eq_true, false_iff]
 all_goals omega
set_option maxHeartbeats 4000000 in
theorem On_w_n (a0 a1 b0 b1 v0 v1 : Int) (t : Int) (_q : Bool) (k1 : ∀ w, Calls Try.prog 43 #[.agg #[.int .i64 b0, .int .i64 b1], .agg #[.int .i64 v0, .int .i64 v1], .agg #[.int .i64 a0, .int .i64 a1]] w fun e w' => e = .returned (.int .i64 t) ∧ Below w.heap.size w w') (e1 : (t == 0) = false) (w : World) :
  Calls Try.prog 55 #[.agg #[.int .i64 a0, .int .i64 a1], .agg #[.int .i64 b0, .int .i64 b1], .agg #[.int .i64 v0, .int .i64 v1]] w fun e w' => e = .returned (.bool false) ∧ Below w.heap.size w w' := by
 have hB_0 := Below.refl w.heap.size w
 have K1 := Lib.hid k1; have E1 := Lib.hid e1
 clear k1 e1
 have e2 := E1.out
 obtain ⟨w1, hw1, pa_0, hb1, hs1⟩ := new_box w (w.heap.size) rfl [.int .i64 a0, .int .i64 a1] 62
 have hb1' : Below w.heap.size w w1 := hb1.mono (by omega)
 clear hb1
 have hB_1 := hB_0.trans (hb1'.mono hB_0.size)
 clear hb1' hB_0
 obtain ⟨w2, hw2, pb_0, hb2, hs2⟩ := new_box w1 (w.heap.size + 1) hs1 [.int .i64 b0, .int .i64 b1] 62
 have hb2' : Below w1.heap.size w1 w2 := hb2.mono (by omega)
 clear hb2
 have hB_2 := hB_1.trans (hb2'.mono hB_1.size)
 have pa_1 := pa_0.below hb2'
 clear hb2' hB_1 pa_0
 obtain ⟨w3, hw3, pv_0, hb3, hs3⟩ := new_box w2 (w.heap.size + 1 + 1) hs2 [.int .i64 v0, .int .i64 v1] 62
 have hb3' : Below w2.heap.size w2 w3 := hb3.mono (by omega)
 clear hb3
 have hB_3 := hB_2.trans (hb3'.mono hB_2.size)
 have pa_2 := pa_1.below hb3'
 have pb_1 := pb_0.below hb3'
 clear hb3' hB_2 pa_1 pb_0
 go_enter Try.func55, Try.ntmps55
 obtain ⟨pae0, pae1, pae2, pae3⟩ := pa_2.open2
 obtain ⟨pbe0, pbe1, pbe2, pbe3⟩ := pb_1.open2
 obtain ⟨pve0, pve1, pve2, pve3⟩ := pv_0.open2
 go_wp2_with fail
 refine (K1.out _).mono ?_
 rintro e w4 ⟨rfl, hb4⟩
 clear pae0 pae1 pae2 pae3 pbe0 pbe1 pbe2 pbe3 pve0 pve1 pve2 pve3
 have hB_4 := hB_3.trans (hb4.mono hB_3.size)
 have pa_3 := pa_2.below hb4
 have pb_2 := pb_1.below hb4
 have pv_1 := pv_0.below hb4
 clear hb4 hB_3 pa_2 pb_1 pv_0
 obtain ⟨pae0, pae1, pae2, pae3⟩ := pa_3.open2
 obtain ⟨pbe0, pbe1, pbe2, pbe3⟩ := pb_2.open2
 obtain ⟨pve0, pve1, pve2, pve3⟩ := pv_1.open2
 go_wp2
 go_ret
 exact ⟨rfl, hB_4⟩
set_option maxHeartbeats 4000000 in
theorem On_w_tf (a0 a1 b0 b1 v0 v1 : Int) (_t : Int) (_q : Bool) (k1 : ∀ w, Calls Try.prog 43 #[.agg #[.int .i64 b0, .int .i64 b1], .agg #[.int .i64 v0, .int .i64 v1], .agg #[.int .i64 a0, .int .i64 a1]] w fun e w' => e = .returned (.int .i64 0) ∧ Below w.heap.size w w') (k2 : ∀ w, Calls Try.prog 61 #[.int .i64 a0, .int .i64 b0, .int .i64 v0] w fun e w' => e = .returned (.bool false) ∧ Below w.heap.size w w') (w : World) :
  Calls Try.prog 55 #[.agg #[.int .i64 a0, .int .i64 a1], .agg #[.int .i64 b0, .int .i64 b1], .agg #[.int .i64 v0, .int .i64 v1]] w fun e w' => e = .returned (.bool false) ∧ Below w.heap.size w w' := by
 have hB_0 := Below.refl w.heap.size w
 have K1 := Lib.hid k1; have K2 := Lib.hid k2
 clear k1 k2
 obtain ⟨w1, hw1, pa_0, hb1, hs1⟩ := new_box w (w.heap.size) rfl [.int .i64 a0, .int .i64 a1] 62
 have hb1' : Below w.heap.size w w1 := hb1.mono (by omega)
 clear hb1
 have hB_1 := hB_0.trans (hb1'.mono hB_0.size)
 clear hb1' hB_0
 obtain ⟨w2, hw2, pb_0, hb2, hs2⟩ := new_box w1 (w.heap.size + 1) hs1 [.int .i64 b0, .int .i64 b1] 62
 have hb2' : Below w1.heap.size w1 w2 := hb2.mono (by omega)
 clear hb2
 have hB_2 := hB_1.trans (hb2'.mono hB_1.size)
 have pa_1 := pa_0.below hb2'
 clear hb2' hB_1 pa_0
 obtain ⟨w3, hw3, pv_0, hb3, hs3⟩ := new_box w2 (w.heap.size + 1 + 1) hs2 [.int .i64 v0, .int .i64 v1] 62
 have hb3' : Below w2.heap.size w2 w3 := hb3.mono (by omega)
 clear hb3
 have hB_3 := hB_2.trans (hb3'.mono hB_2.size)
 have pa_2 := pa_1.below hb3'
 have pb_1 := pb_0.below hb3'
 clear hb3' hB_2 pa_1 pb_0
 go_enter Try.func55, Try.ntmps55
 obtain ⟨pae0, pae1, pae2, pae3⟩ := pa_2.open2
 obtain ⟨pbe0, pbe1, pbe2, pbe3⟩ := pb_1.open2
 obtain ⟨pve0, pve1, pve2, pve3⟩ := pv_0.open2
 go_wp2_with fail
 refine (K1.out _).mono ?_
 rintro e w4 ⟨rfl, hb4⟩
 clear pae0 pae1 pae2 pae3 pbe0 pbe1 pbe2 pbe3 pve0 pve1 pve2 pve3
 have hB_4 := hB_3.trans (hb4.mono hB_3.size)
 have pa_3 := pa_2.below hb4
 have pb_2 := pb_1.below hb4
 have pv_1 := pv_0.below hb4
 clear hb4 hB_3 pa_2 pb_1 pv_0
 obtain ⟨pae0, pae1, pae2, pae3⟩ := pa_3.open2
 obtain ⟨pbe0, pbe1, pbe2, pbe3⟩ := pb_2.open2
 obtain ⟨pve0, pve1, pve2, pve3⟩ := pv_1.open2
 go_wp2_with fail
 refine (K2.out _).mono ?_
 rintro e w5 ⟨rfl, hb5⟩
 clear pae0 pae1 pae2 pae3 pbe0 pbe1 pbe2 pbe3 pve0 pve1 pve2 pve3
 have hB_5 := hB_4.trans (hb5.mono hB_4.size)
 have pa_4 := pa_3.below hb5
 have pb_3 := pb_2.below hb5
 have pv_2 := pv_1.below hb5
 clear hb5 hB_4 pa_3 pb_2 pv_1
 obtain ⟨pae0, pae1, pae2, pae3⟩ := pa_4.open2
 obtain ⟨pbe0, pbe1, pbe2, pbe3⟩ := pb_3.open2
 obtain ⟨pve0, pve1, pve2, pve3⟩ := pv_2.open2
 go_wp2
 go_ret
 exact ⟨rfl, hB_5⟩
set_option maxHeartbeats 4000000 in
theorem On_w_tt (a0 a1 b0 b1 v0 v1 : Int) (_t : Int) (q : Bool) (k1 : ∀ w, Calls Try.prog 43 #[.agg #[.int .i64 b0, .int .i64 b1], .agg #[.int .i64 v0, .int .i64 v1], .agg #[.int .i64 a0, .int .i64 a1]] w fun e w' => e = .returned (.int .i64 0) ∧ Below w.heap.size w w') (k2 : ∀ w, Calls Try.prog 61 #[.int .i64 a0, .int .i64 b0, .int .i64 v0] w fun e w' => e = .returned (.bool true) ∧ Below w.heap.size w w') (k3 : ∀ w, Calls Try.prog 61 #[.int .i64 a1, .int .i64 b1, .int .i64 v1] w fun e w' => e = .returned (.bool q) ∧ Below w.heap.size w w') (w : World) :
  Calls Try.prog 55 #[.agg #[.int .i64 a0, .int .i64 a1], .agg #[.int .i64 b0, .int .i64 b1], .agg #[.int .i64 v0, .int .i64 v1]] w fun e w' => e = .returned (.bool q) ∧ Below w.heap.size w w' := by
 have hB_0 := Below.refl w.heap.size w
 have K1 := Lib.hid k1; have K2 := Lib.hid k2; have K3 := Lib.hid k3
 clear k1 k2 k3
 obtain ⟨w1, hw1, pa_0, hb1, hs1⟩ := new_box w (w.heap.size) rfl [.int .i64 a0, .int .i64 a1] 62
 have hb1' : Below w.heap.size w w1 := hb1.mono (by omega)
 clear hb1
 have hB_1 := hB_0.trans (hb1'.mono hB_0.size)
 clear hb1' hB_0
 obtain ⟨w2, hw2, pb_0, hb2, hs2⟩ := new_box w1 (w.heap.size + 1) hs1 [.int .i64 b0, .int .i64 b1] 62
 have hb2' : Below w1.heap.size w1 w2 := hb2.mono (by omega)
 clear hb2
 have hB_2 := hB_1.trans (hb2'.mono hB_1.size)
 have pa_1 := pa_0.below hb2'
 clear hb2' hB_1 pa_0
 obtain ⟨w3, hw3, pv_0, hb3, hs3⟩ := new_box w2 (w.heap.size + 1 + 1) hs2 [.int .i64 v0, .int .i64 v1] 62
 have hb3' : Below w2.heap.size w2 w3 := hb3.mono (by omega)
 clear hb3
 have hB_3 := hB_2.trans (hb3'.mono hB_2.size)
 have pa_2 := pa_1.below hb3'
 have pb_1 := pb_0.below hb3'
 clear hb3' hB_2 pa_1 pb_0
 go_enter Try.func55, Try.ntmps55
 obtain ⟨pae0, pae1, pae2, pae3⟩ := pa_2.open2
 obtain ⟨pbe0, pbe1, pbe2, pbe3⟩ := pb_1.open2
 obtain ⟨pve0, pve1, pve2, pve3⟩ := pv_0.open2
 go_wp2_with fail
 refine (K1.out _).mono ?_
 rintro e w4 ⟨rfl, hb4⟩
 clear pae0 pae1 pae2 pae3 pbe0 pbe1 pbe2 pbe3 pve0 pve1 pve2 pve3
 have hB_4 := hB_3.trans (hb4.mono hB_3.size)
 have pa_3 := pa_2.below hb4
 have pb_2 := pb_1.below hb4
 have pv_1 := pv_0.below hb4
 clear hb4 hB_3 pa_2 pb_1 pv_0
 obtain ⟨pae0, pae1, pae2, pae3⟩ := pa_3.open2
 obtain ⟨pbe0, pbe1, pbe2, pbe3⟩ := pb_2.open2
 obtain ⟨pve0, pve1, pve2, pve3⟩ := pv_1.open2
 go_wp2_with fail
 refine (K2.out _).mono ?_
 rintro e w5 ⟨rfl, hb5⟩
 clear pae0 pae1 pae2 pae3 pbe0 pbe1 pbe2 pbe3 pve0 pve1 pve2 pve3
 have hB_5 := hB_4.trans (hb5.mono hB_4.size)
 have pa_4 := pa_3.below hb5
 have pb_3 := pb_2.below hb5
 have pv_2 := pv_1.below hb5
 clear hb5 hB_4 pa_3 pb_2 pv_1
 obtain ⟨pae0, pae1, pae2, pae3⟩ := pa_4.open2
 obtain ⟨pbe0, pbe1, pbe2, pbe3⟩ := pb_3.open2
 obtain ⟨pve0, pve1, pve2, pve3⟩ := pv_2.open2
 go_wp2_with fail
 refine (K3.out _).mono ?_
 rintro e w6 ⟨rfl, hb6⟩
 clear pae0 pae1 pae2 pae3 pbe0 pbe1 pbe2 pbe3 pve0 pve1 pve2 pve3
 have hB_6 := hB_5.trans (hb6.mono hB_5.size)
 have pa_5 := pa_4.below hb6
 have pb_4 := pb_3.below hb6
 have pv_3 := pv_2.below hb6
 clear hb6 hB_5 pa_4 pb_3 pv_2
 obtain ⟨pae0, pae1, pae2, pae3⟩ := pa_5.open2
 obtain ⟨pbe0, pbe1, pbe2, pbe3⟩ := pb_4.open2
 obtain ⟨pve0, pve1, pve2, pve3⟩ := pv_3.open2
 go_wp2
 go_ret
 exact ⟨rfl, hB_6⟩
end Go.Proofs.Ytecnnpkpgbbfkaa
/- The calls of pred: Between. -/
namespace Go.Proofs.Ytecnnpkpgbbfkaa
open Go.RowKit Go.MagM
set_option maxHeartbeats 4000000 in
theorem Between_w_sx (a0 a1 v0 v1 : Int) (_q : Bool) (w : World) :
  Calls Try.prog 44 #[.agg #[.int .i64 a0, .int .i64 a1], .agg #[.int .i64 a0, .int .i64 a1], .agg #[.int .i64 v0, .int .i64 v1]] w fun e w' => e = .returned (.bool false) ∧ Below w.heap.size w w' := by
 have hB_0 := Below.refl w.heap.size w
 obtain ⟨w1, hw1, pa_0, hb1, hs1⟩ := new_box w (w.heap.size) rfl [.int .i64 a0, .int .i64 a1] 62
 have hb1' : Below w.heap.size w w1 := hb1.mono (by omega)
 clear hb1
 have hB_1 := hB_0.trans (hb1'.mono hB_0.size)
 clear hb1' hB_0
 obtain ⟨w2, hw2, pb_0, hb2, hs2⟩ := new_box w1 (w.heap.size + 1) hs1 [.int .i64 a0, .int .i64 a1] 62
 have hb2' : Below w1.heap.size w1 w2 := hb2.mono (by omega)
 clear hb2
 have hB_2 := hB_1.trans (hb2'.mono hB_1.size)
 have pa_1 := pa_0.below hb2'
 clear hb2' hB_1 pa_0
 obtain ⟨w3, hw3, pv_0, hb3, hs3⟩ := new_box w2 (w.heap.size + 1 + 1) hs2 [.int .i64 v0, .int .i64 v1] 62
 have hb3' : Below w2.heap.size w2 w3 := hb3.mono (by omega)
 clear hb3
 have hB_3 := hB_2.trans (hb3'.mono hB_2.size)
 have pa_2 := pa_1.below hb3'
 have pb_1 := pb_0.below hb3'
 clear hb3' hB_2 pa_1 pb_0
 go_enter Try.func44, Try.ntmps44
 obtain ⟨pae0, pae1, pae2, pae3⟩ := pa_2.open2
 obtain ⟨pbe0, pbe1, pbe2, pbe3⟩ := pb_1.open2
 obtain ⟨pve0, pve1, pve2, pve3⟩ := pv_0.open2
 go_wp2
 go_ret
 exact ⟨rfl, hB_3⟩
set_option maxHeartbeats 4000000 in
theorem Between_w_xs (a0 a1 b0 b1 : Int) (_q : Bool) (nb : ¬ a0 = b0) (w : World) :
  Calls Try.prog 44 #[.agg #[.int .i64 a0, .int .i64 a1], .agg #[.int .i64 b0, .int .i64 b1], .agg #[.int .i64 a0, .int .i64 a1]] w fun e w' => e = .returned (.bool false) ∧ Below w.heap.size w w' := by
 have hB_0 := Below.refl w.heap.size w
 have gb1 : decide (a0 = b0) = false := by simp [nb]
 have gb2 : (a0 == b0) = false := by simp [nb]
 obtain ⟨w1, hw1, pa_0, hb1, hs1⟩ := new_box w (w.heap.size) rfl [.int .i64 a0, .int .i64 a1] 62
 have hb1' : Below w.heap.size w w1 := hb1.mono (by omega)
 clear hb1
 have hB_1 := hB_0.trans (hb1'.mono hB_0.size)
 clear hb1' hB_0
 obtain ⟨w2, hw2, pb_0, hb2, hs2⟩ := new_box w1 (w.heap.size + 1) hs1 [.int .i64 b0, .int .i64 b1] 62
 have hb2' : Below w1.heap.size w1 w2 := hb2.mono (by omega)
 clear hb2
 have hB_2 := hB_1.trans (hb2'.mono hB_1.size)
 have pa_1 := pa_0.below hb2'
 clear hb2' hB_1 pa_0
 obtain ⟨w3, hw3, pv_0, hb3, hs3⟩ := new_box w2 (w.heap.size + 1 + 1) hs2 [.int .i64 a0, .int .i64 a1] 62
 have hb3' : Below w2.heap.size w2 w3 := hb3.mono (by omega)
 clear hb3
 have hB_3 := hB_2.trans (hb3'.mono hB_2.size)
 have pa_2 := pa_1.below hb3'
 have pb_1 := pb_0.below hb3'
 clear hb3' hB_2 pa_1 pb_0
 go_enter Try.func44, Try.ntmps44
 obtain ⟨pae0, pae1, pae2, pae3⟩ := pa_2.open2
 obtain ⟨pbe0, pbe1, pbe2, pbe3⟩ := pb_1.open2
 obtain ⟨pve0, pve1, pve2, pve3⟩ := pv_0.open2
 go_wp2
 go_ret
 exact ⟨rfl, hB_3⟩
set_option maxHeartbeats 4000000 in
theorem Between_w_xx (a0 a1 b0 b1 v0 v1 : Int) (q : Bool) (nb : ¬ a0 = b0) (nv : ¬ a0 = v0) (k1 : ∀ w, Calls Try.prog 55 #[.agg #[.int .i64 a0, .int .i64 a1], .agg #[.int .i64 b0, .int .i64 b1], .agg #[.int .i64 v0, .int .i64 v1]] w fun e w' => e = .returned (.bool q) ∧ Below w.heap.size w w') (w : World) :
  Calls Try.prog 44 #[.agg #[.int .i64 a0, .int .i64 a1], .agg #[.int .i64 b0, .int .i64 b1], .agg #[.int .i64 v0, .int .i64 v1]] w fun e w' => e = .returned (.bool q) ∧ Below w.heap.size w w' := by
 have hB_0 := Below.refl w.heap.size w
 have gb1 : decide (a0 = b0) = false := by simp [nb]
 have gb2 : (a0 == b0) = false := by simp [nb]
 have gv1 : decide (a0 = v0) = false := by simp [nv]
 have gv2 : (a0 == v0) = false := by simp [nv]
 have K1 := Lib.hid k1
 clear k1
 obtain ⟨w1, hw1, pa_0, hb1, hs1⟩ := new_box w (w.heap.size) rfl [.int .i64 a0, .int .i64 a1] 62
 have hb1' : Below w.heap.size w w1 := hb1.mono (by omega)
 clear hb1
 have hB_1 := hB_0.trans (hb1'.mono hB_0.size)
 clear hb1' hB_0
 obtain ⟨w2, hw2, pb_0, hb2, hs2⟩ := new_box w1 (w.heap.size + 1) hs1 [.int .i64 b0, .int .i64 b1] 62
 have hb2' : Below w1.heap.size w1 w2 := hb2.mono (by omega)
 clear hb2
 have hB_2 := hB_1.trans (hb2'.mono hB_1.size)
 have pa_1 := pa_0.below hb2'
 clear hb2' hB_1 pa_0
 obtain ⟨w3, hw3, pv_0, hb3, hs3⟩ := new_box w2 (w.heap.size + 1 + 1) hs2 [.int .i64 v0, .int .i64 v1] 62
 have hb3' : Below w2.heap.size w2 w3 := hb3.mono (by omega)
 clear hb3
 have hB_3 := hB_2.trans (hb3'.mono hB_2.size)
 have pa_2 := pa_1.below hb3'
 have pb_1 := pb_0.below hb3'
 clear hb3' hB_2 pa_1 pb_0
 go_enter Try.func44, Try.ntmps44
 obtain ⟨pae0, pae1, pae2, pae3⟩ := pa_2.open2
 obtain ⟨pbe0, pbe1, pbe2, pbe3⟩ := pb_1.open2
 obtain ⟨pve0, pve1, pve2, pve3⟩ := pv_0.open2
 go_wp2_with fail
 refine (K1.out _).mono ?_
 rintro e w4 ⟨rfl, hb4⟩
 clear pae0 pae1 pae2 pae3 pbe0 pbe1 pbe2 pbe3 pve0 pve1 pve2 pve3
 have hB_4 := hB_3.trans (hb4.mono hB_3.size)
 have pa_3 := pa_2.below hb4
 have pb_2 := pb_1.below hb4
 have pv_1 := pv_0.below hb4
 clear hb4 hB_3 pa_2 pb_1 pv_0
 obtain ⟨pae0, pae1, pae2, pae3⟩ := pa_3.open2
 obtain ⟨pbe0, pbe1, pbe2, pbe3⟩ := pb_2.open2
 obtain ⟨pve0, pve1, pve2, pve3⟩ := pv_1.open2
 go_wp2
 go_ret
 exact ⟨rfl, hB_4⟩
set_option maxHeartbeats 4000000 in
theorem Between_w_xy (a0 a1 b0 b1 v1 : Int) (q : Bool) (nb : ¬ a0 = b0) (nv : ¬ a1 = v1) (k1 : ∀ w, Calls Try.prog 55 #[.agg #[.int .i64 a0, .int .i64 a1], .agg #[.int .i64 b0, .int .i64 b1], .agg #[.int .i64 a0, .int .i64 v1]] w fun e w' => e = .returned (.bool q) ∧ Below w.heap.size w w') (w : World) :
  Calls Try.prog 44 #[.agg #[.int .i64 a0, .int .i64 a1], .agg #[.int .i64 b0, .int .i64 b1], .agg #[.int .i64 a0, .int .i64 v1]] w fun e w' => e = .returned (.bool q) ∧ Below w.heap.size w w' := by
 have hB_0 := Below.refl w.heap.size w
 have gb1 : decide (a0 = b0) = false := by simp [nb]
 have gb2 : (a0 == b0) = false := by simp [nb]
 have gv1 : decide (a1 = v1) = false := by simp [nv]
 have gv2 : (a1 == v1) = false := by simp [nv]
 have K1 := Lib.hid k1
 clear k1
 obtain ⟨w1, hw1, pa_0, hb1, hs1⟩ := new_box w (w.heap.size) rfl [.int .i64 a0, .int .i64 a1] 62
 have hb1' : Below w.heap.size w w1 := hb1.mono (by omega)
 clear hb1
 have hB_1 := hB_0.trans (hb1'.mono hB_0.size)
 clear hb1' hB_0
 obtain ⟨w2, hw2, pb_0, hb2, hs2⟩ := new_box w1 (w.heap.size + 1) hs1 [.int .i64 b0, .int .i64 b1] 62
 have hb2' : Below w1.heap.size w1 w2 := hb2.mono (by omega)
 clear hb2
 have hB_2 := hB_1.trans (hb2'.mono hB_1.size)
 have pa_1 := pa_0.below hb2'
 clear hb2' hB_1 pa_0
 obtain ⟨w3, hw3, pv_0, hb3, hs3⟩ := new_box w2 (w.heap.size + 1 + 1) hs2 [.int .i64 a0, .int .i64 v1] 62
 have hb3' : Below w2.heap.size w2 w3 := hb3.mono (by omega)
 clear hb3
 have hB_3 := hB_2.trans (hb3'.mono hB_2.size)
 have pa_2 := pa_1.below hb3'
 have pb_1 := pb_0.below hb3'
 clear hb3' hB_2 pa_1 pb_0
 go_enter Try.func44, Try.ntmps44
 obtain ⟨pae0, pae1, pae2, pae3⟩ := pa_2.open2
 obtain ⟨pbe0, pbe1, pbe2, pbe3⟩ := pb_1.open2
 obtain ⟨pve0, pve1, pve2, pve3⟩ := pv_0.open2
 go_wp2_with fail
 refine (K1.out _).mono ?_
 rintro e w4 ⟨rfl, hb4⟩
 clear pae0 pae1 pae2 pae3 pbe0 pbe1 pbe2 pbe3 pve0 pve1 pve2 pve3
 have hB_4 := hB_3.trans (hb4.mono hB_3.size)
 have pa_3 := pa_2.below hb4
 have pb_2 := pb_1.below hb4
 have pv_1 := pv_0.below hb4
 clear hb4 hB_3 pa_2 pb_1 pv_0
 obtain ⟨pae0, pae1, pae2, pae3⟩ := pa_3.open2
 obtain ⟨pbe0, pbe1, pbe2, pbe3⟩ := pb_2.open2
 obtain ⟨pve0, pve1, pve2, pve3⟩ := pv_1.open2
 go_wp2
 go_ret
 exact ⟨rfl, hB_4⟩
set_option maxHeartbeats 4000000 in
theorem Between_w_ys (a0 a1 b1 : Int) (_q : Bool) (nb : ¬ a1 = b1) (w : World) :
  Calls Try.prog 44 #[.agg #[.int .i64 a0, .int .i64 a1], .agg #[.int .i64 a0, .int .i64 b1], .agg #[.int .i64 a0, .int .i64 a1]] w fun e w' => e = .returned (.bool false) ∧ Below w.heap.size w w' := by
 have hB_0 := Below.refl w.heap.size w
 have gb1 : decide (a1 = b1) = false := by simp [nb]
 have gb2 : (a1 == b1) = false := by simp [nb]
 obtain ⟨w1, hw1, pa_0, hb1, hs1⟩ := new_box w (w.heap.size) rfl [.int .i64 a0, .int .i64 a1] 62
 have hb1' : Below w.heap.size w w1 := hb1.mono (by omega)
 clear hb1
 have hB_1 := hB_0.trans (hb1'.mono hB_0.size)
 clear hb1' hB_0
 obtain ⟨w2, hw2, pb_0, hb2, hs2⟩ := new_box w1 (w.heap.size + 1) hs1 [.int .i64 a0, .int .i64 b1] 62
 have hb2' : Below w1.heap.size w1 w2 := hb2.mono (by omega)
 clear hb2
 have hB_2 := hB_1.trans (hb2'.mono hB_1.size)
 have pa_1 := pa_0.below hb2'
 clear hb2' hB_1 pa_0
 obtain ⟨w3, hw3, pv_0, hb3, hs3⟩ := new_box w2 (w.heap.size + 1 + 1) hs2 [.int .i64 a0, .int .i64 a1] 62
 have hb3' : Below w2.heap.size w2 w3 := hb3.mono (by omega)
 clear hb3
 have hB_3 := hB_2.trans (hb3'.mono hB_2.size)
 have pa_2 := pa_1.below hb3'
 have pb_1 := pb_0.below hb3'
 clear hb3' hB_2 pa_1 pb_0
 go_enter Try.func44, Try.ntmps44
 obtain ⟨pae0, pae1, pae2, pae3⟩ := pa_2.open2
 obtain ⟨pbe0, pbe1, pbe2, pbe3⟩ := pb_1.open2
 obtain ⟨pve0, pve1, pve2, pve3⟩ := pv_0.open2
 go_wp2
 go_ret
 exact ⟨rfl, hB_3⟩
set_option maxHeartbeats 4000000 in
theorem Between_w_yx (a0 a1 b1 v0 v1 : Int) (q : Bool) (nb : ¬ a1 = b1) (nv : ¬ a0 = v0) (k1 : ∀ w, Calls Try.prog 55 #[.agg #[.int .i64 a0, .int .i64 a1], .agg #[.int .i64 a0, .int .i64 b1], .agg #[.int .i64 v0, .int .i64 v1]] w fun e w' => e = .returned (.bool q) ∧ Below w.heap.size w w') (w : World) :
  Calls Try.prog 44 #[.agg #[.int .i64 a0, .int .i64 a1], .agg #[.int .i64 a0, .int .i64 b1], .agg #[.int .i64 v0, .int .i64 v1]] w fun e w' => e = .returned (.bool q) ∧ Below w.heap.size w w' := by
 have hB_0 := Below.refl w.heap.size w
 have gb1 : decide (a1 = b1) = false := by simp [nb]
 have gb2 : (a1 == b1) = false := by simp [nb]
 have gv1 : decide (a0 = v0) = false := by simp [nv]
 have gv2 : (a0 == v0) = false := by simp [nv]
 have K1 := Lib.hid k1
 clear k1
 obtain ⟨w1, hw1, pa_0, hb1, hs1⟩ := new_box w (w.heap.size) rfl [.int .i64 a0, .int .i64 a1] 62
 have hb1' : Below w.heap.size w w1 := hb1.mono (by omega)
 clear hb1
 have hB_1 := hB_0.trans (hb1'.mono hB_0.size)
 clear hb1' hB_0
 obtain ⟨w2, hw2, pb_0, hb2, hs2⟩ := new_box w1 (w.heap.size + 1) hs1 [.int .i64 a0, .int .i64 b1] 62
 have hb2' : Below w1.heap.size w1 w2 := hb2.mono (by omega)
 clear hb2
 have hB_2 := hB_1.trans (hb2'.mono hB_1.size)
 have pa_1 := pa_0.below hb2'
 clear hb2' hB_1 pa_0
 obtain ⟨w3, hw3, pv_0, hb3, hs3⟩ := new_box w2 (w.heap.size + 1 + 1) hs2 [.int .i64 v0, .int .i64 v1] 62
 have hb3' : Below w2.heap.size w2 w3 := hb3.mono (by omega)
 clear hb3
 have hB_3 := hB_2.trans (hb3'.mono hB_2.size)
 have pa_2 := pa_1.below hb3'
 have pb_1 := pb_0.below hb3'
 clear hb3' hB_2 pa_1 pb_0
 go_enter Try.func44, Try.ntmps44
 obtain ⟨pae0, pae1, pae2, pae3⟩ := pa_2.open2
 obtain ⟨pbe0, pbe1, pbe2, pbe3⟩ := pb_1.open2
 obtain ⟨pve0, pve1, pve2, pve3⟩ := pv_0.open2
 go_wp2_with fail
 refine (K1.out _).mono ?_
 rintro e w4 ⟨rfl, hb4⟩
 clear pae0 pae1 pae2 pae3 pbe0 pbe1 pbe2 pbe3 pve0 pve1 pve2 pve3
 have hB_4 := hB_3.trans (hb4.mono hB_3.size)
 have pa_3 := pa_2.below hb4
 have pb_2 := pb_1.below hb4
 have pv_1 := pv_0.below hb4
 clear hb4 hB_3 pa_2 pb_1 pv_0
 obtain ⟨pae0, pae1, pae2, pae3⟩ := pa_3.open2
 obtain ⟨pbe0, pbe1, pbe2, pbe3⟩ := pb_2.open2
 obtain ⟨pve0, pve1, pve2, pve3⟩ := pv_1.open2
 go_wp2
 go_ret
 exact ⟨rfl, hB_4⟩
set_option maxHeartbeats 4000000 in
theorem Between_w_yy (a0 a1 b1 v1 : Int) (q : Bool) (nb : ¬ a1 = b1) (nv : ¬ a1 = v1) (k1 : ∀ w, Calls Try.prog 55 #[.agg #[.int .i64 a0, .int .i64 a1], .agg #[.int .i64 a0, .int .i64 b1], .agg #[.int .i64 a0, .int .i64 v1]] w fun e w' => e = .returned (.bool q) ∧ Below w.heap.size w w') (w : World) :
  Calls Try.prog 44 #[.agg #[.int .i64 a0, .int .i64 a1], .agg #[.int .i64 a0, .int .i64 b1], .agg #[.int .i64 a0, .int .i64 v1]] w fun e w' => e = .returned (.bool q) ∧ Below w.heap.size w w' := by
 have hB_0 := Below.refl w.heap.size w
 have gb1 : decide (a1 = b1) = false := by simp [nb]
 have gb2 : (a1 == b1) = false := by simp [nb]
 have gv1 : decide (a1 = v1) = false := by simp [nv]
 have gv2 : (a1 == v1) = false := by simp [nv]
 have K1 := Lib.hid k1
 clear k1
 obtain ⟨w1, hw1, pa_0, hb1, hs1⟩ := new_box w (w.heap.size) rfl [.int .i64 a0, .int .i64 a1] 62
 have hb1' : Below w.heap.size w w1 := hb1.mono (by omega)
 clear hb1
 have hB_1 := hB_0.trans (hb1'.mono hB_0.size)
 clear hb1' hB_0
 obtain ⟨w2, hw2, pb_0, hb2, hs2⟩ := new_box w1 (w.heap.size + 1) hs1 [.int .i64 a0, .int .i64 b1] 62
 have hb2' : Below w1.heap.size w1 w2 := hb2.mono (by omega)
 clear hb2
 have hB_2 := hB_1.trans (hb2'.mono hB_1.size)
 have pa_1 := pa_0.below hb2'
 clear hb2' hB_1 pa_0
 obtain ⟨w3, hw3, pv_0, hb3, hs3⟩ := new_box w2 (w.heap.size + 1 + 1) hs2 [.int .i64 a0, .int .i64 v1] 62
 have hb3' : Below w2.heap.size w2 w3 := hb3.mono (by omega)
 clear hb3
 have hB_3 := hB_2.trans (hb3'.mono hB_2.size)
 have pa_2 := pa_1.below hb3'
 have pb_1 := pb_0.below hb3'
 clear hb3' hB_2 pa_1 pb_0
 go_enter Try.func44, Try.ntmps44
 obtain ⟨pae0, pae1, pae2, pae3⟩ := pa_2.open2
 obtain ⟨pbe0, pbe1, pbe2, pbe3⟩ := pb_1.open2
 obtain ⟨pve0, pve1, pve2, pve3⟩ := pv_0.open2
 go_wp2_with fail
 refine (K1.out _).mono ?_
 rintro e w4 ⟨rfl, hb4⟩
 clear pae0 pae1 pae2 pae3 pbe0 pbe1 pbe2 pbe3 pve0 pve1 pve2 pve3
 have hB_4 := hB_3.trans (hb4.mono hB_3.size)
 have pa_3 := pa_2.below hb4
 have pb_2 := pb_1.below hb4
 have pv_1 := pv_0.below hb4
 clear hb4 hB_3 pa_2 pb_1 pv_0
 obtain ⟨pae0, pae1, pae2, pae3⟩ := pa_3.open2
 obtain ⟨pbe0, pbe1, pbe2, pbe3⟩ := pb_2.open2
 obtain ⟨pve0, pve1, pve2, pve3⟩ := pv_1.open2
 go_wp2
 go_ret
 exact ⟨rfl, hB_4⟩
theorem Between_any (a0 a1 b0 b1 v0 v1 : Int) (q : Bool) (k : ∀ w, Calls Try.prog 55 #[.agg #[.int .i64 a0, .int .i64 a1], .agg #[.int .i64 b0, .int .i64 b1], .agg #[.int .i64 v0, .int .i64 v1]] w fun e w' => e = .returned (.bool q) ∧ Below w.heap.size w w') (w : World) :
  Calls Try.prog 44 #[.agg #[.int .i64 a0, .int .i64 a1], .agg #[.int .i64 b0, .int .i64 b1], .agg #[.int .i64 v0, .int .i64 v1]] w fun e w' => e = .returned (.bool (decide (¬ (a0 = b0 ∧ a1 = b1) ∧ ¬ (a0 = v0 ∧ a1 = v1)) && q)) ∧ Below w.heap.size w w' := by
 by_cases hb0 : a0 = b0
 ·subst hb0
  by_cases hb1 : a1 = b1
  ·subst hb1
   rw [decide_eq_false (by simp), Bool.false_and]
   exact Between_w_sx a0 a1 v0 v1 q w
  ·by_cases hv0 : a0 = v0
   ·subst hv0
    by_cases hv1 : a1 = v1
    ·subst hv1
     rw [decide_eq_false (by simp), Bool.false_and]
     exact Between_w_ys a0 a1 b1 q hb1 w
    ·rw [decide_eq_true (by simp [hb1, hv1]), Bool.true_and]
     exact Between_w_yy a0 a1 b1 v1 q hb1 hv1 k w
   ·rw [decide_eq_true (by simp [hb1, hv0]), Bool.true_and]
    exact Between_w_yx a0 a1 b1 v0 v1 q hb1 hv0 k w
 ·by_cases hv0 : a0 = v0
  ·subst hv0
   by_cases hv1 : a1 = v1
   ·subst hv1
    rw [decide_eq_false (by simp), Bool.false_and]
    exact Between_w_xs a0 a1 b0 b1 q hb0 w
   ·rw [decide_eq_true (by simp [hb0, hv1]), Bool.true_and]
    exact Between_w_xy a0 a1 b0 b1 v1 q hb0 hv1 k w
  ·rw [decide_eq_true (by simp [hb0, hv0]), Bool.true_and]
   exact Between_w_xx a0 a1 b0 b1 v0 v1 q hb0 hv0 k w
end Go.Proofs.Ytecnnpkpgbbfkaa
/- On, parts, Crosses, Meets, Between: what they answer. -/
namespace Go.Proofs.Ytecnnpkpgbbfkaa
open Go.RowKit Go.MagM
/-- A point on a line, its ends with it. -/
def onP (a0 a1 b0 b1 v0 v1 : Int) : Bool := decide ((crs b0 b1 v0 v1 a0 a1 = 0 ∧ min b0 v0 ≤ a0 ∧ a0 ≤ max b0 v0) ∧ min b1 v1 ≤ a1 ∧ a1 ≤ max b1 v1)
theorem On_is (a0 a1 b0 b1 v0 v1 : Int) (ha0 : InP a0) (ha1 : InP a1) (hb0 : InP b0) (hb1 : InP b1) (hv0 : InP v0) (hv1 : InP v1) (q : Bool) (h : onP a0 a1 b0 b1 v0 v1 = q) (w : World) :
  Calls Try.prog 55 #[.agg #[.int .i64 a0, .int .i64 a1], .agg #[.int .i64 b0, .int .i64 b1], .agg #[.int .i64 v0, .int .i64 v1]] w fun e w' => e = .returned (.bool q) ∧ Below w.heap.size w w' := by
 by_cases hc : crs b0 b1 v0 v1 a0 a1 = 0
 ·by_cases hx : min b0 v0 ≤ a0 ∧ a0 ≤ max b0 v0
  ·refine On_w_tt a0 a1 b0 b1 v0 v1 0 q (fun w => Orient_is b0 b1 v0 v1 a0 a1 hb0 hb1 hv0 hv1 ha0 ha1 (by rw [hc]; rfl) w) (fun w => ?_) (fun w => ?_) w
   ·have := within_any a0 b0 v0 w; rwa [decide_eq_true hx] at this
   ·have := within_any a1 b1 v1 w
    have e : decide (min b1 v1 ≤ a1 ∧ a1 ≤ max b1 v1) = q := by
     rw [← h]; unfold onP; rw [decide_eq_decide]; exact ⟨fun k => ⟨⟨hc, hx⟩, k⟩, fun k => k.2⟩
    rwa [e] at this
  ·have e : q = false := by rw [← h]; unfold onP; exact decide_eq_false (fun k => hx k.1.2)
   subst e
   refine On_w_tf a0 a1 b0 b1 v0 v1 0 false (fun w => Orient_is b0 b1 v0 v1 a0 a1 hb0 hb1 hv0 hv1 ha0 ha1 (by rw [hc]; rfl) w) (fun w => ?_) w
   have := within_any a0 b0 v0 w; rwa [decide_eq_false hx] at this
 ·have e : q = false := by rw [← h]; unfold onP; exact decide_eq_false (fun k => hc k.1.1)
  subst e
  exact On_w_n a0 a1 b0 b1 v0 v1 _ false (fun w => Orient_is b0 b1 v0 v1 a0 a1 hb0 hb1 hv0 hv1 ha0 ha1 rfl w) (beq_eq_false_iff_ne.2 (fun k => hc (Int.sign_eq_zero_iff_zero.1 k))) w
/-- A point on a line, between its ends. -/
theorem Between_is (a0 a1 b0 b1 v0 v1 : Int) (ha0 : InP a0) (ha1 : InP a1) (hb0 : InP b0) (hb1 : InP b1) (hv0 : InP v0) (hv1 : InP v1) (q : Bool) (h : (decide (¬ (a0 = b0 ∧ a1 = b1) ∧ ¬ (a0 = v0 ∧ a1 = v1)) && onP a0 a1 b0 b1 v0 v1) = q) (w : World) :
  Calls Try.prog 44 #[.agg #[.int .i64 a0, .int .i64 a1], .agg #[.int .i64 b0, .int .i64 b1], .agg #[.int .i64 v0, .int .i64 v1]] w fun e w' => e = .returned (.bool q) ∧ Below w.heap.size w w' := by
 subst h
 exact Between_any a0 a1 b0 b1 v0 v1 _ (fun w => On_is a0 a1 b0 b1 v0 v1 ha0 ha1 hb0 hb1 hv0 hv1 _ rfl w) w
end Go.Proofs.Ytecnnpkpgbbfkaa
/- Points over Rat: centres, lines, shares. Over no program. -/
namespace Go.Proofs.Ytecnnpkpgbbfkaa
open Go.MagM
/-- The centre's coordinates. -/
def cxN (a0 a1 b0 b1 v0 v1 : Int) : Int := sqd a0 a1 b0 b1 * (v1 - a1) - sqd a0 a1 v0 v1 * (b1 - a1)
def cyN (a0 a1 b0 b1 v0 v1 : Int) : Int := sqd a0 a1 v0 v1 * (b0 - a0) - sqd a0 a1 b0 b1 * (v0 - a0)
def cx (a0 a1 b0 b1 v0 v1 : Int) : Rat := (a0 : Rat) + ((cxN a0 a1 b0 b1 v0 v1 : Int) : Rat) / ((crs a0 a1 b0 b1 v0 v1 + crs a0 a1 b0 b1 v0 v1 : Int) : Rat)
def cy (a0 a1 b0 b1 v0 v1 : Int) : Rat := (a1 : Rat) + ((cyN a0 a1 b0 b1 v0 v1 : Int) : Rat) / ((crs a0 a1 b0 b1 v0 v1 + crs a0 a1 b0 b1 v0 v1 : Int) : Rat)
end Go.Proofs.Ytecnnpkpgbbfkaa
/- Slices of Spots, rows of Fracs that grow. Over any program. -/
namespace Go.MagM
open Go.RowKit
/-- The slice at ao reads as points; each coordinate has at most L words. -/
def Spots (w : World) (ao : Option Addr) (L : Nat) (l : List (Rat × Rat)) : Prop :=
 ∀ i x y, l[i]? = some (x, y) → ∃ b o m so sn sc tp tn tc m' so' sn' sc' tp' tn' tc', ao = some ⟨b, o, none⟩ ∧ w.cell? ⟨b, o + i * 6, none⟩ = some (.bool m) ∧ w.cell? ⟨b, o + i * 6 + 1, none⟩ = some (.slice so sn sc) ∧ w.cell? ⟨b, o + i * 6 + 2, none⟩ = some (.slice tp tn tc) ∧
  w.cell? ⟨b, o + i * 6 + 3, none⟩ = some (.bool m') ∧ w.cell? ⟨b, o + i * 6 + 4, none⟩ = some (.slice so' sn' sc') ∧ w.cell? ⟨b, o + i * 6 + 5, none⟩ = some (.slice tp' tn' tc') ∧
  FQ w (.agg #[.bool m, .slice so sn sc, .slice tp tn tc]) L x ∧ FQ w (.agg #[.bool m', .slice so' sn' sc', .slice tp' tn' tc']) L y
theorem Spots.below {w w' : World} {ao : Option Addr} {L : Nat} {l : List (Rat × Rat)} (h : Spots w ao L l) (hb : Below w.heap.size w w') : Spots w' ao L l := by
 intro i x y hi
 obtain ⟨b, o, m, so, sn, sc, tp, tn, tc, m', so', sn', sc', tp', tn', tc', h0, h1, h2, h3, h4, h5, h6, h7, h8⟩ := h i x y hi
 have hlt := World.block_lt_of_cell? w _ h1
 exact ⟨b, o, m, so, sn, sc, tp, tn, tc, m', so', sn', sc', tp', tn', tc', h0, (hb.cell (p := ⟨b, o + i * 6, none⟩) hlt).trans h1, (hb.cell (p := ⟨b, o + i * 6 + 1, none⟩) hlt).trans h2, (hb.cell (p := ⟨b, o + i * 6 + 2, none⟩) hlt).trans h3,
  (hb.cell (p := ⟨b, o + i * 6 + 3, none⟩) hlt).trans h4, (hb.cell (p := ⟨b, o + i * 6 + 4, none⟩) hlt).trans h5, (hb.cell (p := ⟨b, o + i * 6 + 5, none⟩) hlt).trans h6, h7.below hb, h8.below hb⟩
theorem Spots.drew {w : World} {ao : Option Addr} {L : Nat} {l : List (Rat × Rat)} (h : Spots w ao L l) : Spots w.drew ao L l := h
/-- Six cells hold these values. -/
structure At6 (w : World) (b o : Nat) (v0 v1 v2 v3 v4 v5 : Value) : Prop where
 c0 : w.cell? ⟨b, o, none⟩ = some v0
 c1 : w.cell? ⟨b, o + 1, none⟩ = some v1
 c2 : w.cell? ⟨b, o + 2, none⟩ = some v2
 c3 : w.cell? ⟨b, o + 3, none⟩ = some v3
 c4 : w.cell? ⟨b, o + 4, none⟩ = some v4
 c5 : w.cell? ⟨b, o + 5, none⟩ = some v5
theorem At6.below {w w' : World} {b o : Nat} {v0 v1 v2 v3 v4 v5 : Value} (h : At6 w b o v0 v1 v2 v3 v4 v5) (hb : Below w.heap.size w w') : At6 w' b o v0 v1 v2 v3 v4 v5 := by
 have hlt := World.block_lt_of_cell? w _ h.c0
 exact ⟨(hb.cell (p := ⟨b, o, none⟩) hlt).trans h.c0, (hb.cell (p := ⟨b, o + 1, none⟩) hlt).trans h.c1, (hb.cell (p := ⟨b, o + 2, none⟩) hlt).trans h.c2, (hb.cell (p := ⟨b, o + 3, none⟩) hlt).trans h.c3, (hb.cell (p := ⟨b, o + 4, none⟩) hlt).trans h.c4, (hb.cell (p := ⟨b, o + 5, none⟩) hlt).trans h.c5⟩
theorem At6.drew {w : World} {b o : Nat} {v0 v1 v2 v3 v4 v5 : Value} (h : At6 w b o v0 v1 v2 v3 v4 v5) : At6 w.drew b o v0 v1 v2 v3 v4 v5 := ⟨h.c0, h.c1, h.c2, h.c3, h.c4, h.c5⟩
/-- Cells that are Fracs, three each. -/
def Fr (w : World) (L : Nat) (xs : List Value) (l : List Rat) : Prop :=
 ∀ i q, l[i]? = some q → ∃ m so sn sc tp tn tc, xs[i * 3]? = some (.bool m) ∧ xs[i * 3 + 1]? = some (.slice so sn sc) ∧ xs[i * 3 + 2]? = some (.slice tp tn tc) ∧ RF w (.agg #[.bool m, .slice so sn sc, .slice tp tn tc]) L q
theorem Fr.below {w w' : World} {L : Nat} {xs : List Value} {l : List Rat} (h : Fr w L xs l) (hb : Below w.heap.size w w') : Fr w' L xs l := fun i q hi => by
 obtain ⟨m, so, sn, sc, tp, tn, tc, h1, h2, h3, h4⟩ := h i q hi; exact ⟨m, so, sn, sc, tp, tn, tc, h1, h2, h3, h4.below hb⟩
theorem Fr.kept {w w' : World} {L : Nat} {xs : List Value} {l : List Rat} (h : Fr w L xs l) (hb : Kept w w') : Fr w' L xs l := fun i q hi => by
 obtain ⟨m, so, sn, sc, tp, tn, tc, h1, h2, h3, h4⟩ := h i q hi; exact ⟨m, so, sn, sc, tp, tn, tc, h1, h2, h3, h4.kept hb⟩
theorem Fr.drew {w : World} {L : Nat} {xs : List Value} {l : List Rat} (h : Fr w L xs l) : Fr w.drew L xs l := h
theorem Fr.nil (w : World) (L : Nat) : Fr w L [] [] := fun i q hi => by simp at hi
end Go.MagM
namespace Go.Proofs.Ytecnnpkpgbbfkaa
open Go.MagM
end Go.Proofs.Ytecnnpkpgbbfkaa
/- The helpers of layer 3's statements: short. -/
namespace Go.Proofs.Ytecnnpkpgbbfkaa
open Go.RowKit Go.MagM
def FRow (w : World) (g k : Nat) (mf : Nat → Bool) (af : Nat → Option Addr) (nf cf : Nat → Nat) (pf : Nat → Option Addr) (kf df : Nat → Nat) : Prop :=
 ∀ i, i < k → w.cell? ⟨g, i * 3, none⟩ = some (.bool (mf i)) ∧ w.cell? ⟨g, i * 3 + 1, none⟩ = some (.slice (af i) (nf i) (cf i)) ∧ w.cell? ⟨g, i * 3 + 2, none⟩ = some (.slice (pf i) (kf i) (df i))
theorem FRow.below {w w' : World} {g k : Nat} {mf : Nat → Bool} {af : Nat → Option Addr} {nf cf : Nat → Nat} {pf : Nat → Option Addr} {kf df : Nat → Nat} (h : FRow w g k mf af nf cf pf kf df) (hb : Below w.heap.size w w') : FRow w' g k mf af nf cf pf kf df := by
 intro i hi
 obtain ⟨h1, h2, h3⟩ := h i hi
 have hlt := World.block_lt_of_cell? w _ h1
 exact ⟨(hb.cell (p := ⟨g, i * 3, none⟩) hlt).trans h1, (hb.cell (p := ⟨g, i * 3 + 1, none⟩) hlt).trans h2, (hb.cell (p := ⟨g, i * 3 + 2, none⟩) hlt).trans h3⟩
end Go.Proofs.Ytecnnpkpgbbfkaa
/- A region that draws its order, by one invariant of what is listed: as many arms as operations. Over any program. -/
namespace Go.MagM
open Go
/-- How many are not listed. -/
def cnt (l : Array Bool) : Nat := l.toList.count false
theorem count_set_lt : ∀ (l : List Bool) (i : Nat), l[i]? = some false → (l.set i true).count false + 1 = l.count false
 | [], i, h => by simp at h
 | x :: l, 0, h => by simp at h; subst h; simp
 | x :: l, i + 1, h => by
  have := count_set_lt l i (by simpa using h)
  cases x <;> simp [List.set_cons_succ] <;> omega
theorem getD_false {l : Array Bool} {i : Nat} (h : l.getD i true = false) : l.toList[i]? = some false := by
 rcases Nat.lt_or_ge i l.size with h' | h'
 ·simp [h'] at h ⊢; exact h
 ·simp [Array.getElem?_eq_none h'] at h
/-- A slot that is written with what it holds. -/
theorem put_same (a : Act) (d : Nat) : a.put (some d) (a.tmps.getD d undef) = a := by
 obtain ⟨tmps, defers⟩ := a
 simp only [Act.put, Act.mk.injEq, and_true]
 apply Array.ext
 ·simp
 ·intro i h1 h2
  rw [Array.getElem_setIfInBounds]
  split
  ·rename_i h; subst h; simp [h2]
  ·rfl
section
variable {P : Program} {ops : Array Oper} {Q : Exit → Act → World → Prop} {md : Region.Mode} {S : World → Prop}
theorem ready_cnt {l : Array Bool} {i : Nat} (h : i ∈ Region.ready md ops l) : cnt (l.setIfInBounds i true) + 1 = cnt l := by
 have h1 := getD_false (mem_ready.1 h).1
 have := count_set_lt l.toList i h1
 unfold cnt
 simpa using this
theorem wpAnyH_until (Inv : Array Bool → Act → World → Prop)
  (h : ∀ l a w, Inv l a w → wpAnyH P md ops Q S (cnt l) l a w ∨ (Region.ready md ops l ≠ [] ∧ ∀ i ∈ Region.ready md ops l, wpOp P ops Q i (fun a' w' => S w' ∧ Inv (l.setIfInBounds i true) a' w') a w)) :
  ∀ (fuel : Nat) (l : Array Bool) (a : Act) (w : World), Inv l a w → cnt l = fuel → wpAnyH P md ops Q S fuel l a w
 | 0, l, a, w, hI, hc => by
  rcases h l a w hI with h1 | ⟨h1, _⟩
  ·rw [hc] at h1; exact h1
  ·exfalso
   obtain ⟨i, hi⟩ := List.exists_mem_of_ne_nil _ h1
   have := ready_cnt hi
   omega
 | fuel + 1, l, a, w, hI, hc => by
  rcases h l a w hI with h1 | ⟨h1, h2⟩
  ·rw [hc] at h1; exact h1
  ·refine ⟨fun h0 => absurd h0 h1, fun i hi => wpOp_mono (fun a' w' h3 => ⟨h3.1, wpAnyH_until Inv h fuel _ a' w' h3.2 ?_⟩) (h2 i hi)⟩
   have := ready_cnt hi
   omega
theorem step_of {Inv : Array Bool → Act → World → Prop} {l : Array Bool} {a : Act} {w : World} (i : Nat) (o : Oper) (ho : ops[i]? = some o)
  (h : ∀ K' : Act → World → Prop, Shut (∀ a' w', S w' → Inv (l.setIfInBounds i true) a' w' → K' a' w') → if Region.wanted o (yielded ops a.tmps) = true then Oper.wp P o a w K' Q else K' (a.put o.dst undef) w) :
  wpOp P ops Q i (fun a' w' => S w' ∧ Inv (l.setIfInBounds i true) a' w') a w :=
 wpOp_step ho (fun K' hK => h K' (fun a w hS hI => hK a w ⟨hS, hI⟩))
end
end Go.MagM
/- What is ready, and what is not: for the invariant of a region (RegI). Over any program. -/
namespace Go.MagM
open Go
section
variable {ops : Array Oper} {md : Region.Mode} {l : Array Bool}
theorem ready_of (i : Nat) (o : Oper) (ho : ops[i]? = some o) (h0 : l.getD i true = false) (h : (o.after.all fun e => !Region.binds md e || l.getD e.on false) = true) : Region.ready md ops l ≠ [] := by
 refine List.ne_nil_of_mem (a := i) (mem_ready.2 ⟨h0, o, ho, fun e he hb => ?_⟩)
 have := Array.all_eq_true_iff_forall_mem.1 h e he
 simpa [hb] using this
theorem ready_lt {i : Nat} (h : i ∈ Region.ready md ops l) : i < ops.size := by
 obtain ⟨_, o, ho, _⟩ := mem_ready.1 h
 exact (Array.getElem?_eq_some_iff.1 ho).1
theorem ready_off {i : Nat} (h : i ∈ Region.ready md ops l) : l.getD i true = false := (mem_ready.1 h).1
theorem ready_dep {i d : Nat} (h : i ∈ Region.ready md ops l) (hw : Region.waitsFor md ops i d = true) : l.getD d false = true := by
 obtain ⟨_, o, ho, hall⟩ := mem_ready.1 h
 obtain ⟨o', ho', e, he, hb, rfl⟩ := Region.waitsFor_spec hw
 rw [ho] at ho'
 cases ho'
 exact hall e he hb
end
end Go.MagM
/- The statements' own helpers: short, same, fit. -/
namespace Go.Proofs.Ytecnnpkpgbbfkaa
open Go.RowKit Go.MagM
theorem RMag.zero {w : World} {v : Value} {L : Nat} (h : RMag w v L 0) : ∃ ao c, v = .slice ao 0 c := by
  obtain ⟨ao, n, c, f, rfl, h2, h3, h4, h5, h6⟩ := h
  cases n with
  | zero => exact ⟨ao, c, rfl⟩
  | succ k =>
    exfalso
    have := h6.ge
    have := Bp k
    omega
end Go.Proofs.Ytecnnpkpgbbfkaa
/- Plain mathematics of decimal digits, the lowest first. No program. -/
namespace Go.MagT
/-- Ten. -/
def B : Nat := 10
theorem B_pos : 0 < B := by unfold B; omega
theorem B_gt1 : 1 < B := by unfold B; omega
theorem B_eq : B = 10 := rfl
theorem Bp (n : Nat) : 0 < B ^ n := Nat.pow_pos B_pos
/-- What the first k words count. -/
def V (f : Nat → Nat) : Nat → Nat
 | 0 => 0
 | k + 1 => V f k + f k * B ^ k
theorem V_succ (f : Nat → Nat) (k : Nat) : V f (k + 1) = V f k + f k * B ^ k := rfl
theorem V_congr {f g : Nat → Nat} : ∀ {n : Nat}, (∀ i, i < n → f i = g i) → V f n = V g n
 | 0, _ => rfl
 | n + 1, h => by rw [V_succ, V_succ, V_congr (fun i hi => h i (by omega)), h n (by omega)]
theorem V_lt {f : Nat → Nat} : ∀ {n : Nat}, (∀ i, i < n → f i < B) → V f n < B ^ n
 | 0, _ => by simp [V]
 | n + 1, h => by
  have h1 := V_lt (n := n) (fun i hi => h i (by omega))
  have h2 : f n + 1 ≤ B := h n (by omega)
  have h3 := Nat.mul_le_mul_right (B ^ n) h2
  rw [V_succ, Nat.pow_succ, Nat.mul_comm (B ^ n) B]
  rw [Nat.add_mul] at h3
  omega
theorem V_split (f : Nat → Nat) (a : Nat) : ∀ b : Nat, V f (a + b) = V f a + B ^ a * V (fun i => f (a + i)) b
 | 0 => by simp [V]
 | b + 1 => by
  rw [← Nat.add_assoc, V_succ, V_split f a b, V_succ, Nat.pow_add, Nat.mul_add]
  have : f (a + b) * (B ^ a * B ^ b) = B ^ a * (f (a + b) * B ^ b) := by rw [Nat.mul_left_comm]
  omega
theorem V_one (f : Nat → Nat) : V f 1 = f 0 := by simp [V]
theorem V_none {f : Nat → Nat} : ∀ {n : Nat}, (∀ i, i < n → f i = 0) → V f n = 0
 | 0, _ => rfl
 | n + 1, h => by rw [V_succ, V_none (fun i hi => h i (by omega)), h n (by omega)]; simp
/-- The word k turned. -/
def upd (f : Nat → Nat) (k x : Nat) : Nat → Nat := fun i => if i = k then x else f i
theorem upd_same (f : Nat → Nat) (k x : Nat) : upd f k x k = x := by simp [upd]
theorem upd_other (f : Nat → Nat) (k x : Nat) {i : Nat} (h : i ≠ k) : upd f k x i = f i := by simp [upd, h]
/-- Without a 0 at the end. -/
def Right (f : Nat → Nat) (n : Nat) : Prop := ∀ k, n = k + 1 → f k ≠ 0
theorem Right.ge {f : Nat → Nat} {k : Nat} (h : Right f (k + 1)) : B ^ k ≤ V f (k + 1) := by
 have h1 : 1 ≤ f k := by have := h k rfl; omega
 have h2 := Nat.mul_le_mul_right (B ^ k) h1
 rw [V_succ]; omega
theorem len_le_of_lt {f : Nat → Nat} {n L : Nat} (rf : Right f n) (h : V f n < B ^ L) : n ≤ L := by
 cases n with
 | zero => omega
 | succ k =>
  have h1 := rf.ge
  have h2 : B ^ k < B ^ L := by omega
  have := (Nat.pow_lt_pow_iff_right B_gt1).1 h2
  omega
theorem mod_lt (x : Nat) : x % B < B := Nat.mod_lt _ B_pos
end Go.MagT
/- Decimal digits in memory; the document's own Add: what it answers. -/
namespace Go.Proofs.Ytecnnpkpgbbfkaa
open Go.RowKit
/-- The slice at ao reads as the digits f 0 .. f (n - 1). -/
def DReads (w : World) (ao : Option Addr) (n : Nat) (f : Nat → Nat) : Prop :=
 ∀ i, i < n → ∃ b o, ao = some ⟨b, o, none⟩ ∧ w.cell? ⟨b, o + i, none⟩ = some (.int .i64 ((f i : Nat) : Int)) ∧ f i < MagT.B
theorem DReads.less {w : World} {ao : Option Addr} {n m : Nat} {f : Nat → Nat} (h : DReads w ao n f) (hm : m ≤ n) : DReads w ao m f := fun i hi => h i (by omega)
theorem DReads.lt {w : World} {ao : Option Addr} {n : Nat} {f : Nat → Nat} (h : DReads w ao n f) : ∀ i, i < n → f i < MagT.B := fun i hi => by obtain ⟨_, _, _, _, h3⟩ := h i hi; exact h3
theorem DReads.below {m : Nat} {w w' : World} {bo : Option Addr} {h : Nat → Nat} (hr : DReads w bo m h) (hb : Below w.heap.size w w') : DReads w' bo m h := by
 intro i hi
 obtain ⟨b', o', e, hc, hl⟩ := hr i hi
 exact ⟨b', o', e, by rw [hb.cell (p := ⟨b', o' + i, none⟩) (World.block_lt_of_cell? w _ hc)]; exact hc, hl⟩
/-- A slice of decimal digits, right, at most L of them, that count N. -/
def Dec (w : World) (v : Value) (L N : Nat) : Prop := ∃ ao n c f, v = .slice ao n c ∧ n ≤ c ∧ n ≤ L ∧ DReads w ao n f ∧ MagT.V f n = N ∧ MagT.Right f n
theorem Dec.below {w w' : World} {v : Value} {L N : Nat} (h : Dec w v L N) (hb : Below w.heap.size w w') : Dec w' v L N := by
 obtain ⟨ao, n, c, f, h1, h2, h3, h4, h5⟩ := h; exact ⟨ao, n, c, f, h1, h2, h3, h4.below hb, h5⟩
theorem Dec.more {w : World} {v : Value} {L L' N : Nat} (h : Dec w v L N) (hL : L ≤ L') : Dec w v L' N := by
 obtain ⟨ao, n, c, f, h1, h2, h3, h4, h5⟩ := h; exact ⟨ao, n, c, f, h1, h2, by omega, h4, h5⟩
theorem Dec.short {w : World} {v : Value} {L N K : Nat} (h : Dec w v L N) (hN : N < MagT.B ^ K) : Dec w v K N := by
 obtain ⟨ao, n, c, f, h1, h2, h3, h4, h5, h6⟩ := h
 exact ⟨ao, n, c, f, h1, h2, MagT.len_le_of_lt h6 (by rw [h5]; exact hN), h4, h5, h6⟩
end Go.Proofs.Ytecnnpkpgbbfkaa
/- Rows of Spots that grow; what is appended from nothing; a slice that is cut. Over any program, and some over none. -/
namespace Go.MagM
open Go.RowKit
/-- Cells that are Spots, six each. -/
def Sr (w : World) (L : Nat) (xs : List Value) (l : List (Rat × Rat)) : Prop :=
 (∀ u ∈ xs, u.oneCell' = true) ∧ (∀ u ∈ xs, NoWord u) ∧ xs.length = l.length * 6 ∧
 ∀ i x y, l[i]? = some (x, y) → ∃ m so sn sc tp tn tc m' so' sn' sc' tp' tn' tc', xs[i * 6]? = some (.bool m) ∧ xs[i * 6 + 1]? = some (.slice so sn sc) ∧ xs[i * 6 + 2]? = some (.slice tp tn tc) ∧
  xs[i * 6 + 3]? = some (.bool m') ∧ xs[i * 6 + 4]? = some (.slice so' sn' sc') ∧ xs[i * 6 + 5]? = some (.slice tp' tn' tc') ∧ FQ w (.agg #[.bool m, .slice so sn sc, .slice tp tn tc]) L x ∧ FQ w (.agg #[.bool m', .slice so' sn' sc', .slice tp' tn' tc']) L y
theorem Sr.kept {w w' : World} {L : Nat} {xs : List Value} {l : List (Rat × Rat)} (h : Sr w L xs l) (hk : Kept w w') : Sr w' L xs l :=
 ⟨h.1, h.2.1, h.2.2.1, fun i x y hi => by
  obtain ⟨m, so, sn, sc, tp, tn, tc, m', so', sn', sc', tp', tn', tc', h1, h2, h3, h4, h5, h6, h7, h8⟩ := h.2.2.2 i x y hi
  exact ⟨m, so, sn, sc, tp, tn, tc, m', so', sn', sc', tp', tn', tc', h1, h2, h3, h4, h5, h6, h7.kept hk, h8.kept hk⟩⟩
theorem Sr.below {w w' : World} {L : Nat} {xs : List Value} {l : List (Rat × Rat)} (h : Sr w L xs l) (hb : Below w.heap.size w w') : Sr w' L xs l := h.kept (Kept.below hb)
theorem Sr.drew {w : World} {L : Nat} {xs : List Value} {l : List (Rat × Rat)} (h : Sr w L xs l) : Sr w.drew L xs l := h
theorem Sr.setAll {w : World} {L g : Nat} {xs : List Value} {l : List (Rat × Rat)} (h : Sr w L xs l) {vs : List Value} (hb : Box w g vs) (hv : ∀ u ∈ vs, NoWord u) (ys : List Value) (hl : vs.length = ys.length) : Sr (Go.MagM.setAll w g 0 ys) L xs l :=
 ⟨h.1, h.2.1, h.2.2.1, fun i x y hi => by
  obtain ⟨m, so, sn, sc, tp, tn, tc, m', so', sn', sc', tp', tn', tc', h1, h2, h3, h4, h5, h6, h7, h8⟩ := h.2.2.2 i x y hi
  exact ⟨m, so, sn, sc, tp, tn, tc, m', so', sn', sc', tp', tn', tc', h1, h2, h3, h4, h5, h6, h7.setAll hb hv ys hl, h8.setAll hb hv ys hl⟩⟩
theorem Sr.nil (w : World) (L : Nat) : Sr w L [] [] := ⟨by simp, by simp, rfl, fun i x y hi => by simp at hi⟩
theorem Sr.one {w : World} {L : Nat} {m : Bool} {so : Option Addr} {sn sc : Nat} {tp : Option Addr} {tn tc : Nat} {m' : Bool} {so' : Option Addr} {sn' sc' : Nat} {tp' : Option Addr} {tn' tc' : Nat} {x y : Rat}
  (hx : FQ w (.agg #[.bool m, .slice so sn sc, .slice tp tn tc]) L x) (hy : FQ w (.agg #[.bool m', .slice so' sn' sc', .slice tp' tn' tc']) L y) : Sr w L [.bool m, .slice so sn sc, .slice tp tn tc, .bool m', .slice so' sn' sc', .slice tp' tn' tc'] [(x, y)] := by
 refine ⟨?_, noWord6 _ _ _ _ _ _ _ _ _ _ _ _ _ _, rfl, fun i a b hi => ?_⟩
 ·intro u hu; simp at hu; rcases hu with rfl | rfl | rfl | rfl | rfl | rfl <;> rfl
 ·have hi' := (List.getElem?_eq_some_iff.1 hi).1
  obtain rfl : i = 0 := by simpa using hi'
  simp at hi
  obtain ⟨rfl, rfl⟩ := hi
  exact ⟨_, _, _, _, _, _, _, _, _, _, _, _, _, _, rfl, rfl, rfl, rfl, rfl, rfl, hx, hy⟩
theorem Sr.append {w : World} {L : Nat} {xs ys : List Value} {l k : List (Rat × Rat)} (h : Sr w L xs l) (h' : Sr w L ys k) : Sr w L (xs ++ ys) (l ++ k) := by
 refine ⟨?_, ?_, ?_, fun i x y hi => ?_⟩
 ·intro u hu; rw [List.mem_append] at hu; rcases hu with hu | hu
  ·exact h.1 u hu
  ·exact h'.1 u hu
 ·intro u hu; rw [List.mem_append] at hu; rcases hu with hu | hu
  ·exact h.2.1 u hu
  ·exact h'.2.1 u hu
 ·rw [List.length_append, List.length_append, h.2.2.1, h'.2.2.1, Nat.add_mul]
 ·by_cases hlt : i < l.length
  ·rw [List.getElem?_append_left hlt] at hi
   have hl := h.2.2.1
   obtain ⟨m, so, sn, sc, tp, tn, tc, m', so', sn', sc', tp', tn', tc', h1, h2, h3, h4, h5, h6, h7⟩ := h.2.2.2 i x y hi
   refine ⟨m, so, sn, sc, tp, tn, tc, m', so', sn', sc', tp', tn', tc', ?_, ?_, ?_, ?_, ?_, ?_, h7⟩ <;> rw [List.getElem?_append_left (by omega)] <;> assumption
  ·rw [List.getElem?_append_right (by omega)] at hi
   have hl := h.2.2.1
   obtain ⟨m, so, sn, sc, tp, tn, tc, m', so', sn', sc', tp', tn', tc', h1, h2, h3, h4, h5, h6, h7⟩ := h'.2.2.2 _ x y hi
   refine ⟨m, so, sn, sc, tp, tn, tc, m', so', sn', sc', tp', tn', tc', ?_, ?_, ?_, ?_, ?_, ?_, h7⟩
   ·rw [List.getElem?_append_right (by omega), show i * 6 - xs.length = (i - l.length) * 6 by omega]; exact h1
   ·rw [List.getElem?_append_right (by omega), show i * 6 + 1 - xs.length = (i - l.length) * 6 + 1 by omega]; exact h2
   ·rw [List.getElem?_append_right (by omega), show i * 6 + 2 - xs.length = (i - l.length) * 6 + 2 by omega]; exact h3
   ·rw [List.getElem?_append_right (by omega), show i * 6 + 3 - xs.length = (i - l.length) * 6 + 3 by omega]; exact h4
   ·rw [List.getElem?_append_right (by omega), show i * 6 + 4 - xs.length = (i - l.length) * 6 + 4 by omega]; exact h5
   ·rw [List.getElem?_append_right (by omega), show i * 6 + 5 - xs.length = (i - l.length) * 6 + 5 by omega]; exact h6
/-- One of them, where it lies. -/
theorem Sr.at {w : World} {base : Nat} {e : TypeId} {v : Value} {n L : Nat} {xs : List Value} {l : List (Rat × Rat)} (h : Sr w L xs l) (hr : RowN w base e 6 v n xs) {i : Nat} {x y : Rat} (hi : l[i]? = some (x, y)) :
  ∃ g c m so sn sc tp tn tc m' so' sn' sc' tp' tn' tc', v = .slice (some ⟨g, 0, none⟩) n c ∧ At6 w g (i * 6) (.bool m) (.slice so sn sc) (.slice tp tn tc) (.bool m') (.slice so' sn' sc') (.slice tp' tn' tc') ∧
   FQ w (.agg #[.bool m, .slice so sn sc, .slice tp tn tc]) L x ∧ FQ w (.agg #[.bool m', .slice so' sn' sc', .slice tp' tn' tc']) L y := by
 obtain ⟨m, so, sn, sc, tp, tn, tc, m', so', sn', sc', tp', tn', tc', h1, h2, h3, h4, h5, h6, h7, h8⟩ := h.2.2.2 i x y hi
 have hl := (List.getElem?_eq_some_iff.1 h1).1
 rcases hr.2 with ⟨rfl, rfl⟩ | ⟨g, cap, cur, rfl, _⟩
 ·have := hr.1; omega
 ·exact ⟨g, cap, m, so, sn, sc, tp, tn, tc, m', so', sn', sc', tp', tn', tc', rfl, ⟨hr.cells rfl _ _ h1, hr.cells rfl _ _ h2, hr.cells rfl _ _ h3, hr.cells rfl _ _ h4, hr.cells rfl _ _ h5, hr.cells rfl _ _ h6⟩, h7, h8⟩
/-- A slice that has just been made. -/
theorem RowN.made {w w' : World} {base : Nat} {e : TypeId} {size n : Nat} {xs : List Value} (hw : w.alloc (.cells xs.toArray e) = w') (hb : base ≤ w.heap.size) (hl : xs.length = n * size) (hn : n ≤ maxLen) (hv : ∀ u ∈ xs, NoWord u) :
  RowN w' base e size (.slice (some ⟨w.heap.size, 0, none⟩) n n) n xs := by
 subst hw
 refine ⟨hl, .inr ⟨w.heap.size, n, xs.toArray, rfl, hb, heap_alloc_new w _, Nat.le_refl _, hn, by simpa using hl, ?_, by simpa using hv⟩⟩
 rw [← hl]; simp
theorem At6.grown {w w' : World} {b o : Nat} {v0 v1 v2 v3 v4 v5 : Value} {row : Option Nat} (h : At6 w b o v0 v1 v2 v3 v4 v5) (hg : w.grownBy w' row) (hne : row ≠ some b) : At6 w' b o v0 v1 v2 v3 v4 v5 := by
 have hl := World.block_lt_of_cell? w _ h.c0
 have e := hg.block b hl (fun k => hne k.symm)
 exact ⟨(World.cell?_of_block (a := ⟨b, o, none⟩) e).trans h.c0, (World.cell?_of_block (a := ⟨b, o + 1, none⟩) e).trans h.c1, (World.cell?_of_block (a := ⟨b, o + 2, none⟩) e).trans h.c2, (World.cell?_of_block (a := ⟨b, o + 3, none⟩) e).trans h.c3, (World.cell?_of_block (a := ⟨b, o + 4, none⟩) e).trans h.c4, (World.cell?_of_block (a := ⟨b, o + 5, none⟩) e).trans h.c5⟩
section
variable {P : Program}
theorem wpList_append_row {ops : Array Oper} {rest : List Oper} {w : World} {o : Oper} {a : Act} {Q : Exit → Act → World → Prop} (hgd : o.guard = none) (s x : Operand) (t : TypeId)
  (ho : o.op = .call { callee := .builtin .append, args := #[s, x], argTypes := #[t, t] })
  {v v' : Value} {u : Value} {w' : World} (hs : a.eval s = v) (hx : a.eval x = u) (hr : (Builtin.append_ #[t, t] o.type #[v, u]).run P w = .ok v' w')
  (h : wpList P ops Q rest (a.put o.dst v') w') : wpList P ops Q (o :: rest) a w := wpList_plain hgd fun _ hK => wp_append_row s x t ho hs hx hr (hK _ _ h)
end
end Go.MagM
/- Boxes of ints hold no word. Over no program. -/
namespace Go.MagM
theorem noWordI2 (x y : Int) : ∀ u ∈ [Value.int .i64 x, Value.int .i64 y], NoWord u := by
  intro u hu; simp at hu; rcases hu with rfl | rfl <;> exact NoWord.int _
theorem noWordI6 (x0 x1 x2 x3 x4 x5 : Int) : ∀ u ∈ [Value.int .i64 x0, Value.int .i64 x1, Value.int .i64 x2, Value.int .i64 x3, Value.int .i64 x4, Value.int .i64 x5], NoWord u := by
  intro u hu; simp at hu; rcases hu with rfl | rfl | rfl | rfl | rfl | rfl <;> exact NoWord.int _
end Go.MagM
/- Triangles of a mesh as cells: a Tri is nine cells (three ints, three ints, three bools); a row whose cells are written in place. Over any program; written ahead of layer 9's code. -/
namespace Go.MagM
open Go.RowKit
/-- A triangle: its points, what lies across from each, and which of these edges are faults. -/
structure TriM where
 v0 : Int
 v1 : Int
 v2 : Int
 n0 : Int
 n1 : Int
 n2 : Int
 f0 : Bool
 f1 : Bool
 f2 : Bool
namespace TriM
def v (T : TriM) : Nat → Int
 | 0 => T.v0
 | 1 => T.v1
 | _ => T.v2
def n (T : TriM) : Nat → Int
 | 0 => T.n0
 | 1 => T.n1
 | _ => T.n2
def f (T : TriM) : Nat → Bool
 | 0 => T.f0
 | 1 => T.f1
 | _ => T.f2
def setN (T : TriM) (i : Nat) (x : Int) : TriM := match i with
 | 0 => { T with n0 := x }
 | 1 => { T with n1 := x }
 | _ => { T with n2 := x }
def setF (T : TriM) (i : Nat) (x : Bool) : TriM := match i with
 | 0 => { T with f0 := x }
 | 1 => { T with f1 := x }
 | _ => { T with f2 := x }
def cells (T : TriM) : List Value := [.int .i64 T.v0, .int .i64 T.v1, .int .i64 T.v2, .int .i64 T.n0, .int .i64 T.n1, .int .i64 T.n2, .bool T.f0, .bool T.f1, .bool T.f2]
end TriM
def triCells : List TriM → List Value
 | [] => []
 | T :: t => T.cells ++ triCells t
theorem triCells_len : ∀ l, (triCells l).length = l.length * 9
 | [] => rfl
 | T :: t => by rw [triCells, List.length_append, triCells_len t, List.length_cons]; simp [TriM.cells]; omega
theorem triCells_app : ∀ l k, triCells (l ++ k) = triCells l ++ triCells k
 | [], _ => rfl
 | T :: t, k => by rw [List.cons_append, triCells, triCells_app t k, triCells, List.append_assoc]
theorem triCells_get : ∀ (l : List TriM) (i j : Nat) (T : TriM), l[i]? = some T → j < 9 → (triCells l)[i * 9 + j]? = T.cells[j]?
 | [], _, _, _, h, _ => by simp at h
 | X :: t, 0, j, T, h, hj => by
  simp at h; subst h
  rw [triCells, Nat.zero_mul, Nat.zero_add, List.getElem?_append_left (by simpa [TriM.cells] using hj)]
 | X :: t, i + 1, j, T, h, hj => by
  have := triCells_get t i j T (by simpa using h) hj
  rw [triCells, List.getElem?_append_right (by simp [TriM.cells]; omega)]
  rw [show (i + 1) * 9 + j - X.cells.length = i * 9 + j by simp [TriM.cells]; omega]
  exact this
/-- A cell of one triangle is written. -/
theorem triCells_set : ∀ (l : List TriM) (i j : Nat) (u : Value) (T T' : TriM), l[i]? = some T → j < 9 → T'.cells = T.cells.set j u → (triCells l).set (i * 9 + j) u = triCells (l.set i T')
 | [], _, _, _, _, _, h, _, _ => by simp at h
 | X :: t, 0, j, u, T, T', h, hj, he => by
  simp at h; subst h
  rw [triCells, Nat.zero_mul, Nat.zero_add, List.set_append_left _ _ (by simpa [TriM.cells] using hj), List.set_cons_zero, triCells, he]
 | X :: t, i + 1, j, u, T, T', h, hj, he => by
  have := triCells_set t i j u T T' (by simpa using h) hj he
  rw [triCells, List.set_append_right _ _ (by simp [TriM.cells]; omega), List.set_cons_succ, triCells, ← this]
  rw [show (i + 1) * 9 + j - X.cells.length = i * 9 + j by simp [TriM.cells]; omega]
theorem triCells_setN {l : List TriM} {i : Nat} {T : TriM} (h : l[i]? = some T) (j : Nat) (hj : j < 3) (x : Int) : (triCells l).set (i * 9 + (3 + j)) (.int .i64 x) = triCells (l.set i (T.setN j x)) := by
 refine triCells_set l i (3 + j) _ T _ h (by omega) ?_
 obtain rfl | rfl | rfl : j = 0 ∨ j = 1 ∨ j = 2 := by omega
 all_goals rfl
theorem triCells_setF {l : List TriM} {i : Nat} {T : TriM} (h : l[i]? = some T) (j : Nat) (hj : j < 3) (x : Bool) : (triCells l).set (i * 9 + (6 + j)) (.bool x) = triCells (l.set i (T.setF j x)) := by
 refine triCells_set l i (6 + j) _ T _ h (by omega) ?_
 obtain rfl | rfl | rfl : j = 0 ∨ j = 1 ∨ j = 2 := by omega
 all_goals rfl
/-- A row's cell is written in place. -/
theorem RowN.put {w : World} {base : Nat} {e : TypeId} {size g n c : Nat} {xs : List Value} (h : RowN w base e size (.slice (some ⟨g, 0, none⟩) n c) n xs) (j : Nat) (u : Value) (hu : NoWord u) :
  RowN (w.setCell ⟨g, j, none⟩ u) base e size (.slice (some ⟨g, 0, none⟩) n c) n (xs.set j u) := by
 refine ⟨by rw [List.length_set]; exact h.1, ?_⟩
 rcases h.2 with ⟨h0, _⟩ | ⟨g', cap, cur, h1, h2, h3, h4, h5, h6, h7, h8⟩
 ·cases h0
 ·simp only [Value.slice.injEq, Option.some.injEq] at h1
  obtain ⟨h1, -, rfl⟩ := h1
  injection h1 with h1
  subst h1
  refine .inr ⟨g, c, cur.setIfInBounds j u, rfl, h2, ?_, h4, h5, by simpa using h6, ?_, fun x hx => ?_⟩
  ·simp only [World.setCell, Array.getElem?_modify, if_true]
   rw [h3]
   rfl
  ·rw [Array.toList_setIfInBounds, List.take_set, h7]
  ·rw [Array.toList_setIfInBounds] at hx
   rcases List.mem_or_eq_of_mem_set hx with hx | rfl
   ·exact h8 x hx
   ·exact hu
end Go.MagM
