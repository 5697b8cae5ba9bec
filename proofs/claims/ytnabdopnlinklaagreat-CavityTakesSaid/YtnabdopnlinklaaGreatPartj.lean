/- A slice that is the call's own and grows by append; of its cells none is a word. Over any program. -/
import Derived.Test.YtnabdopnlinklaaGreatParth
import Derived.Test.YtnabdopnlinklaaGreatParti
import Derived.Laws.AppendOwn
import Derived.Test.YtnabdopnlinklaaGreatPartg
import Derived.Deep.RegionHeld3
namespace Go.MagM
open Go.RowKit
/-- v is a slice of n elements of size cells each, that lies in a block at base or above; its cells are xs, and none of the block's cells is a word. -/
def RowN (w : World) (base : Nat) (e : TypeId) (size : Nat) (v : Value) (n : Nat) (xs : List Value) : Prop :=
 xs.length = n * size ∧ ((v = .slice none 0 0 ∧ n = 0) ∨
  ∃ g cap cur, v = .slice (some ⟨g, 0, none⟩) n cap ∧ base ≤ g ∧ w.heap[g]? = some (.cells cur e (0, 0)) ∧ n ≤ cap ∧ cap ≤ maxLen ∧ cur.size = cap * size ∧ cur.toList.take (n * size) = xs ∧ ∀ u ∈ cur.toList, NoWord u)
theorem RowN.own {w : World} {base : Nat} {e : TypeId} {size : Nat} {v : Value} {n : Nat} {xs : List Value} (h : RowN w base e size v n xs) : w.ownsRow base e size v n xs := by
 refine ⟨h.1, ?_⟩
 rcases h.2 with h | ⟨g, cap, cur, h1, h2, h3, h4, h5, h6, h7, _⟩
 ·exact .inl h
 ·exact .inr ⟨g, cap, cur, h1, h2, h3, h4, h5, h6, h7⟩
theorem RowN.nil (w : World) (base : Nat) (e : TypeId) (size : Nat) : RowN w base e size (.slice none 0 0) 0 [] := ⟨by simp, .inl ⟨rfl, rfl⟩⟩
theorem RowN.lt {w : World} {base : Nat} {e : TypeId} {size : Nat} {v : Value} {n : Nat} {xs : List Value} (h : RowN w base e size v n xs) : ∀ k, v.ownBlock = some k → base ≤ k ∧ k < w.heap.size := h.own.lt
theorem RowN.block {w w' : World} {base : Nat} {e : TypeId} {size : Nat} {v : Value} {n : Nat} {xs : List Value} (h : RowN w base e size v n xs) (hb : ∀ k, v.ownBlock = some k → k < w.heap.size → w'.heap[k]? = w.heap[k]?) : RowN w' base e size v n xs := by
 refine ⟨h.1, ?_⟩
 rcases h.2 with h | ⟨g, cap, cur, rfl, h2, h3, h4⟩
 ·exact .inl h
 ·exact .inr ⟨g, cap, cur, rfl, h2, by rw [hb g rfl (Array.getElem?_eq_some_iff.1 h3).1]; exact h3, h4⟩
theorem RowN.below {w w' : World} {base : Nat} {e : TypeId} {size : Nat} {v : Value} {n : Nat} {xs : List Value} (h : RowN w base e size v n xs) (hb : Below w.heap.size w w') : RowN w' base e size v n xs :=
 h.block fun k _ hk => hb.block k hk
theorem RowN.drew {w : World} {base : Nat} {e : TypeId} {size : Nat} {v : Value} {n : Nat} {xs : List Value} (h : RowN w base e size v n xs) : RowN w.drew base e size v n xs := h
theorem RowN.grown {w w' : World} {base : Nat} {e : TypeId} {size : Nat} {v : Value} {n : Nat} {xs : List Value} {row : Option Nat} (h : RowN w base e size v n xs) (hg : w.grownBy w' row) (hne : ∀ k, v.ownBlock = some k → some k ≠ row) : RowN w' base e size v n xs :=
 h.block fun k hk hl => hg.block k hl (hne k hk)
theorem Box.grown {w w' : World} {g : Nat} {vs : List Value} {row : Option Nat} (h : Box w g vs) (hg : w.grownBy w' row) (hne : row ≠ some g) (hl : g < w.heap.size) : Box w' g vs := by
 have e := hg.block g hl (fun k => hne k.symm)
 exact ⟨fun i x hi => (World.cell?_of_block (a := ⟨g, i, none⟩) e).trans (h.c i x hi), fun i x hi => (World.frozen?_of_block (a := ⟨g, i, none⟩) e).trans (h.f i x hi)⟩
theorem addr_add (g o j : Nat) : (⟨g, o, none⟩ : Addr).add j = ⟨g, o + j, none⟩ := by unfold Addr.add; split <;> simp_all
theorem Box.news {w : World} {g : Nat} {vs : List Value} (h : Box w g vs) : ∀ j u, vs[j]? = some u → w.cell? ((⟨g, 0, none⟩ : Addr).add j) = some u := by
 intro j u hu; rw [addr_add, Nat.zero_add]; exact h.c j u hu
theorem RowN.cells {w : World} {base : Nat} {e : TypeId} {size : Nat} {v : Value} {n : Nat} {xs : List Value} (h : RowN w base e size v n xs) {g : Nat} (hg : v.ownBlock = some g) : ∀ j u, xs[j]? = some u → w.cell? ⟨g, j, none⟩ = some u := by
 intro j u hu
 have := h.own.cells hg j u hu
 rwa [addr_add, Nat.zero_add] at this
section
variable {P : Program}
theorem noWord_zero {z : Array Value} (hz : ∀ u ∈ z.toList, NoWord u) (n : Nat) : ∀ u ∈ (Builtin.zeroCells z n).toList, NoWord u := by
 intro u hu
 unfold Builtin.zeroCells at hu
 rw [Array.toList_map, List.mem_map] at hu
 obtain ⟨i, hi, rfl⟩ := hu
 have hi' : i < n * z.size := by simpa using hi
 have h0 : 0 < z.size := by
  rcases Nat.eq_zero_or_pos z.size with h | h
  ·rw [h] at hi'; omega
  ·exact h
 have hm := Nat.mod_lt i h0
 rw [getElem!_pos z (i % z.size) hm]
 exact hz _ (Array.mem_toList_iff.2 (Array.getElem_mem hm))
theorem Kept.alloc (w : World) (o : Obj) : Kept w (w.drew.alloc o) := fun a x h => by
 rw [World.cell?_of_block (w := w) (a := a) (heap_alloc_old w.drew o (World.block_lt_of_cell? w a h))]; exact h
/-- append: some slice comes, in some world; its cells are those of both. -/
theorem run_append_row (w : World) (base : Nat) (t ty e : TypeId) (i : TypeInfo) (z : Value) (size bytes : Nat) (ht : P.underlying t = some (.slice e)) (hi : P.info? e = some i) (hz : i.zero = some z)
  (hsize : i.size = size) (hby : i.bytes = bytes) (hzs : z.cells.size = size) (hzw : ∀ u ∈ z.cells.toList, NoWord u)
  (v : Value) (n : Nat) (xs : List Value) (hrow : RowN w base e size v n xs)
  (a : Addr) (m c : Nat) (news : List Value) (hm0 : 0 < m) (hl : news.length = m * size) (hnews : ∀ j u, news[j]? = some u → w.cell? (a.add j) = some u) (h1 : ∀ u ∈ news, u.oneCell' = true) (hnw : ∀ u ∈ news, NoWord u)
  (h63 : n + m ≤ maxLen) (hbytes : (n + m) * bytes ≤ 140737488355328) (hbase : base ≤ w.heap.size) :
  ∃ v' w', (Builtin.append_ #[t, t] ty #[v, .slice (some a) m c]).run P w = .ok v' w' ∧ RowN w' base e size v' (n + m) (xs ++ news) ∧ w.grownBy w' v.ownBlock ∧ Kept w w' := by
 subst hsize
 subst hby
 have hlen : (xs ++ news).length = (n + m) * i.size := by rw [List.length_append, hrow.1, hl, Nat.add_mul]
 have grown : ∀ (old : Nat), old < n + m → (∀ u ∈ xs, NoWord u) → ∀ (row : Option Nat),
   RowN (w.drew.alloc (.cells (xs.toArray ++ news.toArray ++ Builtin.zeroCells z.cells (grownCap w (n + m) old e - (n + m))) e)) base e i.size
    (.slice (some ⟨w.heap.size, 0, none⟩) (n + m) (grownCap w (n + m) old e)) (n + m) (xs ++ news) ∧
   w.grownBy (w.drew.alloc (.cells (xs.toArray ++ news.toArray ++ Builtin.zeroCells z.cells (grownCap w (n + m) old e - (n + m))) e)) row := by
  intro old ho hxw row
  have hge := grownCap_ge w (n + m) old e
  have hcm : grownCap w (n + m) old e ≤ maxLen := grownCap_le_maxLen w (n + m) old e h63
  refine ⟨⟨hlen, .inr ⟨w.heap.size, _, _, rfl, hbase, heap_alloc_new w.drew _, hge, hcm, ?_, ?_, ?_⟩⟩, ⟨rfl, rfl, rfl, by simp, fun k hk _ => heap_alloc_old w.drew _ hk⟩⟩
  ·simp only [Array.size_append, List.size_toArray, size_zeroCells, hzs, hrow.1, hl, ← Nat.add_mul]
   congr 1
   omega
  ·simp only [Array.toList_append, List.append_assoc]
   rw [← List.append_assoc, ← hlen]
   exact List.take_left
  ·intro u hu
   simp only [Array.toList_append, List.mem_append] at hu
   rcases hu with (hu | hu) | hu
   ·exact hxw u hu
   ·exact hnw u hu
   ·exact noWord_zero hzw _ u hu
 have hrow' := hrow
 rcases hrow.2 with ⟨rfl, rfl⟩ | ⟨g, cap, cur, rfl, hbg, hg, hnc, hcm, hcs, htake, hcw⟩
 ·have hx : xs = [] := List.eq_nil_of_length_eq_zero (by simpa using hrow.1)
  subst hx
  have hr := run_append_nil (P := P) w t ty e i z ht hi hz a m c news hl hnews hm0 (by simp only [maxLen] at h63; omega) (by have hb := hbytes; simp only [Nat.zero_add] at hb; omega)
  have hgr := grown 0 (by omega) (fun u hu => by cases hu) (Value.ownBlock (.slice none 0 0))
  simp only [Nat.zero_add, List.nil_append, Array.empty_append] at hgr ⊢
  exact ⟨_, _, hr, hgr.1, hgr.2, Kept.alloc w _⟩
 ·by_cases hroom : n + m ≤ cap
  ·have hfit : n * i.size + news.length ≤ cur.size := by rw [hl, hcs, ← Nat.add_mul]; exact Nat.mul_le_mul_right _ hroom
   have hr := run_append_room (P := P) w t ty e i ht hi g n cap cur hg a m c news hl hnews h1 hroom hfit
   have hcells : ∀ u ∈ cur.toList.take (n * i.size) ++ news ++ cur.toList.drop (n * i.size + news.length), NoWord u := by
    intro u hu
    rw [List.mem_append, List.mem_append] at hu
    rcases hu with (hu | hu) | hu
    ·exact hcw u (List.mem_of_mem_take hu)
    ·exact hnw u hu
    ·exact hcw u (List.mem_of_mem_drop hu)
   refine ⟨_, _, hr, ⟨hlen, .inr ⟨g, cap, _, rfl, hbg, setRow_heap w g cur _ e _ hg, hroom, hcm, ?_, ?_, hcells⟩⟩, ⟨rfl, rfl, rfl, by simp, fun k _ hk => setRow_other w g k _ (fun e => hk (by simp [Value.ownBlock, e]))⟩, ?_⟩
   ·simp only [List.size_toArray, List.length_append, List.length_take, List.length_drop, Array.length_toList]
    omega
   ·rw [htake, ← hlen]
    exact List.take_left
   ·intro p x hp
    by_cases hpg : p.block = g
    ·exfalso
     obtain ⟨pb, po, ps⟩ := p
     simp at hpg
     subst hpg
     have hsp := World.cell?_spot hp
     simp at hsp
     subst hsp
     rw [cell_of_row w pb po cur e (0, 0) hg] at hp
     have hmem : Value.int .u64 x ∈ cur.toList := Array.mem_toList_iff.2 (Array.mem_of_getElem? hp)
     exact hcw _ hmem x rfl
    ·rw [World.cell?_of_block (w := w) (a := p) (setRow_other w g p.block _ hpg)]; exact hp
  ·have holds : ∀ j u, xs[j]? = some u → w.cell? ((⟨g, 0, none⟩ : Addr).add j) = some u := hrow'.own.cells (g := g) rfl
   have hr := run_append_grow (P := P) w t ty e i z ht hi hz ⟨g, 0, none⟩ n cap xs hrow'.1 holds a m c news hl hnews (by omega) (by simp only [maxLen] at h63; omega) (growslice_fits (by omega) hbytes)
   have hgr := grown cap (by omega) (fun u hu => hcw u (by rw [← htake] at hu; exact List.mem_of_mem_take hu)) (Value.ownBlock (.slice (some ⟨g, 0, none⟩) n cap))
   exact ⟨_, _, hr, hgr.1, hgr.2, Kept.alloc w _⟩
theorem wanted_go {o : Oper} {y : Nat → Option Bool} {A B : Prop} (hg : o.guard = none) (h : A) : if Region.wanted o y = true then A else B := by
 have e : Region.wanted o y = true := by simp [Region.wanted, hg]
 rw [if_pos e]; exact h
/-- The operation, in a walk. -/
theorem wp_append_row {w : World} {o : Oper} {a : Act} {K : Act → World → Prop} {Q : Exit → Act → World → Prop} (s x : Operand) (t : TypeId)
  (ho : o.op = .call { callee := .builtin .append, args := #[s, x], argTypes := #[t, t] })
  {v v' : Value} {u : Value} {w' : World} (hs : a.eval s = v) (hx : a.eval x = u) (hr : (Builtin.append_ #[t, t] o.type #[v, u]).run P w = .ok v' w')
  (h : K (a.put o.dst v') w') : o.wp P a w K Q := by
 unfold Oper.wp execOp
 simp only [ho, resolve, invoke, builtin, Sem.run_bind, Sem.run_pure, Result.andThen_ok, List.map_toArray, List.map_cons, List.map_nil, hs, hx, hr]
 exact h
end
end Go.MagM
/- The calls of wide: below, less, across, size, Of, Sign. -/
namespace Go.Proofs.YtnabdopnlinklaaGreat
open Go.RowKit Go.MagM
/-- A call's answer is a number of 128 bits. -/
def AnsW (w w' : World) (e : Ending) (z : Int) : Prop := e = .returned (.agg #[.int .u64 ((wh z : Nat) : Int), .int .u64 ((wl z : Nat) : Int)]) ∧ Below w.heap.size w w'
set_option maxHeartbeats 4000000 in
theorem below_walk (ah al : Nat) (b : Bool) (w : World) (hb : (bits .and .u64 (ah : Int) 9223372036854775808 != 0) = b) :
  Calls Tryz.prog 111 #[.agg #[.int .u64 ((ah : Nat) : Int), .int .u64 ((al : Nat) : Int)]] w fun e w' => e = .returned (.bool b) ∧ Below w.heap.size w w' := by
 have hB_0 := Below.refl w.heap.size w
 obtain ⟨w1, hw1, pa_0, hb1, hs1⟩ := new_box w (w.heap.size) rfl [.int .u64 ((ah : Nat) : Int), .int .u64 ((al : Nat) : Int)] 118
 have hb1' : Below w.heap.size w w1 := hb1.mono (by omega)
 clear hb1
 have hB_1 := hB_0.trans (hb1'.mono hB_0.size)
 clear hb1' hB_0
 go_enter Tryz.func111, Tryz.ntmps111
 obtain ⟨pae0, pae1, pae2, pae3⟩ := pa_0.open2
 go_wp2
 go_ret
 exact ⟨rfl, hB_1⟩
set_option maxHeartbeats 4000000 in
theorem less_walk (ah al : Nat) (bh bl : Nat) (H L k : Nat) (w : World) (h1 : (al + B - bl - 0) % B = L) (h2 : bor al bl 0 = k) (h3 : (ah + B - bh - k) % B = H) (hk : k ≤ 1) :
  Calls Tryz.prog 160 #[.agg #[.int .u64 ((ah : Nat) : Int), .int .u64 ((al : Nat) : Int)], .agg #[.int .u64 ((bh : Nat) : Int), .int .u64 ((bl : Nat) : Int)]] w fun e w' => e = .returned (.agg #[.int .u64 ((H : Nat) : Int), .int .u64 ((L : Nat) : Int)]) ∧ Below w.heap.size w w' := by
 have hB_0 := Below.refl w.heap.size w
 have hsub1 := fun w => sub64_run al bl 0 (by omega) w
 have hsub2 := fun w => sub64_run ah bh k (by omega) w
 simp only [h1, h2] at hsub1
 simp only [h3] at hsub2
 have hs1 : ∀ w, (callFunc 164 #[.int .u64 al, .int .u64 bl, .int .u64 0]).run Tryz.prog w = .ok (.value (.tuple #[.int .u64 L, .int .u64 k])) w := hsub1
 clear hsub1 h1 h2 h3
 obtain ⟨w1, hw1, pa_0, hb1, hs1⟩ := new_box w (w.heap.size) rfl [.int .u64 ((ah : Nat) : Int), .int .u64 ((al : Nat) : Int)] 118
 have hb1' : Below w.heap.size w w1 := hb1.mono (by omega)
 clear hb1
 have hB_1 := hB_0.trans (hb1'.mono hB_0.size)
 clear hb1' hB_0
 obtain ⟨w2, hw2, pb_0, hb2, hs2⟩ := new_box w1 (w.heap.size + 1) hs1 [.int .u64 ((bh : Nat) : Int), .int .u64 ((bl : Nat) : Int)] 118
 have hb2' : Below w1.heap.size w1 w2 := hb2.mono (by omega)
 clear hb2
 have hB_2 := hB_1.trans (hb2'.mono hB_1.size)
 have pa_1 := pa_0.below hb2'
 clear hb2' hB_1 pa_0
 obtain ⟨w3, hw3, pr_0, hb3, hs3⟩ := new_box w2 (w.heap.size + 1 + 1) hs2 [.int .u64 0, .int .u64 0] 118
 have hb3' : Below w2.heap.size w2 w3 := hb3.mono (by omega)
 clear hb3
 have hB_3 := hB_2.trans (hb3'.mono hB_2.size)
 have pa_2 := pa_1.below hb3'
 have pb_1 := pb_0.below hb3'
 clear hb3' hB_2 pa_1 pb_0
 go_enter Tryz.func160, Tryz.ntmps160
 obtain ⟨pae0, pae1, pae2, pae3⟩ := pa_2.open2
 obtain ⟨pbe0, pbe1, pbe2, pbe3⟩ := pb_1.open2
 obtain ⟨pre0, pre1, pre2, pre3⟩ := pr_0.open2
 obtain ⟨sf1a, sf1b, sf1c, sf1d⟩ := pr_0.open2
 obtain ⟨sg1a, sg1b⟩ := Box.put2 pr_0 (.int .u64 ((H : Nat) : Int))
 go_wp2
 clear pae0 pae1 pae2 pae3 pbe0 pbe1 pbe2 pbe3 pre0 pre1 pre2 pre3 sf1a sf1b sf1c sf1d sg1a sg1b
 have hB_4 := below_setAll hB_3 (g := w.heap.size + 1 + 1) (by omega) [.int .u64 ((H : Nat) : Int), .int .u64 ((L : Nat) : Int)]
 have pa_3 := pa_2.farAll (g' := w.heap.size + 1 + 1) (by omega) [.int .u64 ((H : Nat) : Int), .int .u64 ((L : Nat) : Int)]
 have pb_2 := pb_1.farAll (g' := w.heap.size + 1 + 1) (by omega) [.int .u64 ((H : Nat) : Int), .int .u64 ((L : Nat) : Int)]
 have pr_1 := pr_0.setAll [.int .u64 ((H : Nat) : Int), .int .u64 ((L : Nat) : Int)] rfl
 simp only [setAll, Nat.zero_add] at hB_4 pa_3 pb_2 pr_1
 clear hB_3 pa_2 pb_1 pr_0
 generalize (World.setCell (World.setCell w3 ⟨w.heap.size + 1 + 1, 0, none⟩ (.int .u64 ((H : Nat) : Int))) ⟨w.heap.size + 1 + 1, 1, none⟩ (.int .u64 ((L : Nat) : Int))) = w4 at *
 go_wp2
 obtain ⟨pre0, pre1, pre2, pre3⟩ := pr_1.open2
 exact bodyPost_ret (v := .agg #[.int .u64 ((H : Nat) : Int), .int .u64 ((L : Nat) : Int)]) (by simp [results, Tryz.results160, go_sem, pre0, pre1]) rfl ⟨rfl, hB_4⟩
theorem high_and (h : Nat) (hB : h < B) : h &&& 9223372036854775808 = if 9223372036854775808 ≤ h then 9223372036854775808 else 0 := by
 have e : (9223372036854775808 : Nat) = 2 ^ 63 := by decide
 unfold B at hB
 apply Nat.eq_of_testBit_eq
 intro i
 rw [Nat.testBit_and]
 split
 ·rename_i c
  rw [e, Nat.testBit_two_pow]
  by_cases hi : 63 = i
  ·subst hi
   have : h / 2 ^ 63 % 2 = 1 := by omega
   simp [Nat.testBit_eq_decide_div_mod_eq, this]
  ·simp [hi]
 ·rename_i c
  rw [e, Nat.testBit_two_pow, Nat.zero_testBit]
  by_cases hi : 63 = i
  ·subst hi
   rw [Nat.testBit_lt_two_pow (by omega)]; rfl
  ·simp [hi]
theorem below_bit {z : Int} (hz : InW z) : (bits .and .u64 ((wh z : Nat) : Int) 9223372036854775808 != 0) = decide (z < 0) := by
 have h2 : bits .and .u64 ((wh z : Nat) : Int) 9223372036854775808 = ((wh z &&& 9223372036854775808 : Nat) : Int) := bits_and_u64_nat (wh z) 9223372036854775808 (by have := wh_lt z; unfold B at this; omega) (by omega)
 rw [h2, high_and _ (wh_lt z)]
 have h3 := w_neg hz
 by_cases c : z < 0
 ·rw [if_pos (h3.2 c)]; simp [c]
 ·rw [if_neg (mt h3.1 c)]; simp [c]
theorem wbelow_any (z : Int) (hz : InW z) (w : World) : Calls Tryz.prog 111 #[.agg #[.int .u64 ((wh (z) : Nat) : Int), .int .u64 ((wl (z) : Nat) : Int)]] w fun e w' => e = .returned (.bool (decide (z < 0))) ∧ Below w.heap.size w w' :=
 below_walk _ _ _ w (below_bit hz)
theorem less_any (x y : Int) (w : World) : Calls Tryz.prog 160 #[.agg #[.int .u64 ((wh (x) : Nat) : Int), .int .u64 ((wl (x) : Nat) : Int)], .agg #[.int .u64 ((wh (y) : Nat) : Int), .int .u64 ((wl (y) : Nat) : Int)]] w fun e w' => AnsW w w' e (x - y) := by
 obtain ⟨h1, h2⟩ := w_sub x y
 exact less_walk _ _ _ _ _ _ _ w h2 rfl h1 (bor_le _ _ _)
theorem less_zero (y : Int) (w : World) : Calls Tryz.prog 160 #[.agg #[.int .u64 0, .int .u64 0], .agg #[.int .u64 ((wh (y) : Nat) : Int), .int .u64 ((wl (y) : Nat) : Int)]] w fun e w' => AnsW w w' e (-y) := by
 have h := less_any 0 y w
 rw [Int.zero_sub] at h
 exact h
set_option maxHeartbeats 4000000 in
theorem across_any (z : Int) (w : World) :
  Calls Tryz.prog 165 #[.agg #[.int .u64 ((wh (z) : Nat) : Int), .int .u64 ((wl (z) : Nat) : Int)]] w fun e w' => AnsW w w' e (-z) := by
 have hB_0 := Below.refl w.heap.size w
 obtain ⟨w1, hw1, pa_0, hb1, hs1⟩ := new_box w (w.heap.size) rfl [.int .u64 ((wh (z) : Nat) : Int), .int .u64 ((wl (z) : Nat) : Int)] 118
 have hb1' : Below w.heap.size w w1 := hb1.mono (by omega)
 clear hb1
 have hB_1 := hB_0.trans (hb1'.mono hB_0.size)
 clear hb1' hB_0
 obtain ⟨w2, hw2, pr_0, hb2, hs2⟩ := new_box w1 (w.heap.size + 1) hs1 [.int .u64 0, .int .u64 0] 118
 have hb2' : Below w1.heap.size w1 w2 := hb2.mono (by omega)
 clear hb2
 have hB_2 := hB_1.trans (hb2'.mono hB_1.size)
 have pa_1 := pa_0.below hb2'
 clear hb2' hB_1 pa_0
 go_enter Tryz.func165, Tryz.ntmps165
 obtain ⟨pae0, pae1, pae2, pae3⟩ := pa_1.open2
 obtain ⟨pre0, pre1, pre2, pre3⟩ := pr_0.open2
 go_wp2_with fail
 refine (less_zero z _).mono ?_
 rintro e w3 ⟨rfl, hb3⟩
 clear pae0 pae1 pae2 pae3 pre0 pre1 pre2 pre3
 have hB_3 := hB_2.trans (hb3.mono hB_2.size)
 have pa_2 := pa_1.below hb3
 have pr_1 := pr_0.below hb3
 clear hb3 hB_2 pa_1 pr_0
 obtain ⟨pae0, pae1, pae2, pae3⟩ := pa_2.open2
 obtain ⟨pre0, pre1, pre2, pre3⟩ := pr_1.open2
 obtain ⟨sf1a, sf1b, sf1c, sf1d⟩ := pr_1.open2
 obtain ⟨sg1a, sg1b⟩ := Box.put2 pr_1 (.int .u64 ((wh (-z) : Nat) : Int))
 go_wp2
 clear pae0 pae1 pae2 pae3 pre0 pre1 pre2 pre3 sf1a sf1b sf1c sf1d sg1a sg1b
 have hB_4 := below_setAll hB_3 (g := w.heap.size + 1) (by omega) [.int .u64 ((wh (-z) : Nat) : Int), .int .u64 ((wl (-z) : Nat) : Int)]
 have pa_3 := pa_2.farAll (g' := w.heap.size + 1) (by omega) [.int .u64 ((wh (-z) : Nat) : Int), .int .u64 ((wl (-z) : Nat) : Int)]
 have pr_2 := pr_1.setAll [.int .u64 ((wh (-z) : Nat) : Int), .int .u64 ((wl (-z) : Nat) : Int)] rfl
 simp only [setAll, Nat.zero_add] at hB_4 pa_3 pr_2
 clear hB_3 pa_2 pr_1
 generalize (World.setCell (World.setCell w3 ⟨w.heap.size + 1, 0, none⟩ (.int .u64 ((wh (-z) : Nat) : Int))) ⟨w.heap.size + 1, 1, none⟩ (.int .u64 ((wl (-z) : Nat) : Int))) = w4 at *
 go_wp2
 obtain ⟨pre0, pre1, pre2, pre3⟩ := pr_2.open2
 exact bodyPost_ret (v := .agg #[.int .u64 ((wh (-z) : Nat) : Int), .int .u64 ((wl (-z) : Nat) : Int)]) (by simp [results, Tryz.results165, go_sem, pre0, pre1]) rfl ⟨rfl, hB_4⟩
set_option maxHeartbeats 4000000 in
theorem size_neg (z : Int) (w : World) (hz : InW z) (h0 : z < 0) :
  Calls Tryz.prog 118 #[.agg #[.int .u64 ((wh (z) : Nat) : Int), .int .u64 ((wl (z) : Nat) : Int)]] w fun e w' => AnsW w w' e (-z) := by
 have hbel : ∀ w, Calls Tryz.prog 111 #[.agg #[.int .u64 ((wh (z) : Nat) : Int), .int .u64 ((wl (z) : Nat) : Int)]] w fun e w' => e = .returned (.bool true) ∧ Below w.heap.size w w' := by
  intro w; have := wbelow_any z hz w; simpa only [h0, decide_true] using this
 have hB_0 := Below.refl w.heap.size w
 obtain ⟨w1, hw1, pa_0, hb1, hs1⟩ := new_box w (w.heap.size) rfl [.int .u64 ((wh (z) : Nat) : Int), .int .u64 ((wl (z) : Nat) : Int)] 118
 have hb1' : Below w.heap.size w w1 := hb1.mono (by omega)
 clear hb1
 have hB_1 := hB_0.trans (hb1'.mono hB_0.size)
 clear hb1' hB_0
 obtain ⟨w2, hw2, pr_0, hb2, hs2⟩ := new_box w1 (w.heap.size + 1) hs1 [.int .u64 0, .int .u64 0] 118
 have hb2' : Below w1.heap.size w1 w2 := hb2.mono (by omega)
 clear hb2
 have hB_2 := hB_1.trans (hb2'.mono hB_1.size)
 have pa_1 := pa_0.below hb2'
 clear hb2' hB_1 pa_0
 go_enter Tryz.func118, Tryz.ntmps118
 obtain ⟨pae0, pae1, pae2, pae3⟩ := pa_1.open2
 obtain ⟨pre0, pre1, pre2, pre3⟩ := pr_0.open2
 go_wp2_with fail
 refine (hbel _).mono ?_
 rintro e w3 ⟨rfl, hb3⟩
 clear pae0 pae1 pae2 pae3 pre0 pre1 pre2 pre3
 have hB_3 := hB_2.trans (hb3.mono hB_2.size)
 have pa_2 := pa_1.below hb3
 have pr_1 := pr_0.below hb3
 clear hb3 hB_2 pa_1 pr_0
 obtain ⟨pae0, pae1, pae2, pae3⟩ := pa_2.open2
 obtain ⟨pre0, pre1, pre2, pre3⟩ := pr_1.open2
 go_wp2_with fail
 refine (across_any z _).mono ?_
 rintro e w4 ⟨rfl, hb4⟩
 clear pae0 pae1 pae2 pae3 pre0 pre1 pre2 pre3
 have hB_4 := hB_3.trans (hb4.mono hB_3.size)
 have pa_3 := pa_2.below hb4
 have pr_2 := pr_1.below hb4
 clear hb4 hB_3 pa_2 pr_1
 obtain ⟨pae0, pae1, pae2, pae3⟩ := pa_3.open2
 obtain ⟨pre0, pre1, pre2, pre3⟩ := pr_2.open2
 obtain ⟨sf1a, sf1b, sf1c, sf1d⟩ := pr_2.open2
 obtain ⟨sg1a, sg1b⟩ := Box.put2 pr_2 (.int .u64 ((wh (-z) : Nat) : Int))
 go_wp2
 clear pae0 pae1 pae2 pae3 pre0 pre1 pre2 pre3 sf1a sf1b sf1c sf1d sg1a sg1b
 have hB_5 := below_setAll hB_4 (g := w.heap.size + 1) (by omega) [.int .u64 ((wh (-z) : Nat) : Int), .int .u64 ((wl (-z) : Nat) : Int)]
 have pa_4 := pa_3.farAll (g' := w.heap.size + 1) (by omega) [.int .u64 ((wh (-z) : Nat) : Int), .int .u64 ((wl (-z) : Nat) : Int)]
 have pr_3 := pr_2.setAll [.int .u64 ((wh (-z) : Nat) : Int), .int .u64 ((wl (-z) : Nat) : Int)] rfl
 simp only [setAll, Nat.zero_add] at hB_5 pa_4 pr_3
 clear hB_4 pa_3 pr_2
 generalize (World.setCell (World.setCell w4 ⟨w.heap.size + 1, 0, none⟩ (.int .u64 ((wh (-z) : Nat) : Int))) ⟨w.heap.size + 1, 1, none⟩ (.int .u64 ((wl (-z) : Nat) : Int))) = w5 at *
 go_wp2
 obtain ⟨pre0, pre1, pre2, pre3⟩ := pr_3.open2
 exact bodyPost_ret (v := .agg #[.int .u64 ((wh (-z) : Nat) : Int), .int .u64 ((wl (-z) : Nat) : Int)]) (by simp [results, Tryz.results118, go_sem, pre0, pre1]) rfl ⟨rfl, hB_5⟩
set_option maxHeartbeats 4000000 in
theorem size_pos (z : Int) (w : World) (hz : InW z) (h0 : ¬ z < 0) :
  Calls Tryz.prog 118 #[.agg #[.int .u64 ((wh (z) : Nat) : Int), .int .u64 ((wl (z) : Nat) : Int)]] w fun e w' => AnsW w w' e (z) := by
 have hbel : ∀ w, Calls Tryz.prog 111 #[.agg #[.int .u64 ((wh (z) : Nat) : Int), .int .u64 ((wl (z) : Nat) : Int)]] w fun e w' => e = .returned (.bool false) ∧ Below w.heap.size w w' := by
  intro w; have := wbelow_any z hz w; simpa only [h0, decide_false] using this
 have hB_0 := Below.refl w.heap.size w
 obtain ⟨w1, hw1, pa_0, hb1, hs1⟩ := new_box w (w.heap.size) rfl [.int .u64 ((wh (z) : Nat) : Int), .int .u64 ((wl (z) : Nat) : Int)] 118
 have hb1' : Below w.heap.size w w1 := hb1.mono (by omega)
 clear hb1
 have hB_1 := hB_0.trans (hb1'.mono hB_0.size)
 clear hb1' hB_0
 obtain ⟨w2, hw2, pr_0, hb2, hs2⟩ := new_box w1 (w.heap.size + 1) hs1 [.int .u64 0, .int .u64 0] 118
 have hb2' : Below w1.heap.size w1 w2 := hb2.mono (by omega)
 clear hb2
 have hB_2 := hB_1.trans (hb2'.mono hB_1.size)
 have pa_1 := pa_0.below hb2'
 clear hb2' hB_1 pa_0
 go_enter Tryz.func118, Tryz.ntmps118
 obtain ⟨pae0, pae1, pae2, pae3⟩ := pa_1.open2
 obtain ⟨pre0, pre1, pre2, pre3⟩ := pr_0.open2
 go_wp2_with fail
 refine (hbel _).mono ?_
 rintro e w3 ⟨rfl, hb3⟩
 clear pae0 pae1 pae2 pae3 pre0 pre1 pre2 pre3
 have hB_3 := hB_2.trans (hb3.mono hB_2.size)
 have pa_2 := pa_1.below hb3
 have pr_1 := pr_0.below hb3
 clear hb3 hB_2 pa_1 pr_0
 obtain ⟨pae0, pae1, pae2, pae3⟩ := pa_2.open2
 obtain ⟨pre0, pre1, pre2, pre3⟩ := pr_1.open2
 obtain ⟨sf1a, sf1b, sf1c, sf1d⟩ := pr_1.open2
 obtain ⟨sg1a, sg1b⟩ := Box.put2 pr_1 (.int .u64 ((wh (z) : Nat) : Int))
 go_wp2
 clear pae0 pae1 pae2 pae3 pre0 pre1 pre2 pre3 sf1a sf1b sf1c sf1d sg1a sg1b
 have hB_4 := below_setAll hB_3 (g := w.heap.size + 1) (by omega) [.int .u64 ((wh (z) : Nat) : Int), .int .u64 ((wl (z) : Nat) : Int)]
 have pa_3 := pa_2.farAll (g' := w.heap.size + 1) (by omega) [.int .u64 ((wh (z) : Nat) : Int), .int .u64 ((wl (z) : Nat) : Int)]
 have pr_2 := pr_1.setAll [.int .u64 ((wh (z) : Nat) : Int), .int .u64 ((wl (z) : Nat) : Int)] rfl
 simp only [setAll, Nat.zero_add] at hB_4 pa_3 pr_2
 clear hB_3 pa_2 pr_1
 generalize (World.setCell (World.setCell w3 ⟨w.heap.size + 1, 0, none⟩ (.int .u64 ((wh (z) : Nat) : Int))) ⟨w.heap.size + 1, 1, none⟩ (.int .u64 ((wl (z) : Nat) : Int))) = w4 at *
 go_wp2
 obtain ⟨pre0, pre1, pre2, pre3⟩ := pr_2.open2
 exact bodyPost_ret (v := .agg #[.int .u64 ((wh (z) : Nat) : Int), .int .u64 ((wl (z) : Nat) : Int)]) (by simp [results, Tryz.results118, go_sem, pre0, pre1]) rfl ⟨rfl, hB_4⟩
theorem size_any (z : Int) (w : World) (hz : InW z) : Calls Tryz.prog 118 #[.agg #[.int .u64 ((wh (z) : Nat) : Int), .int .u64 ((wl (z) : Nat) : Int)]] w fun e w' => AnsW w w' e (z.natAbs : Int) := by
 by_cases h0 : z < 0
 ·have h := size_neg z w hz h0
  rwa [show -z = (z.natAbs : Int) by omega] at h
 ·have h := size_pos z w hz h0
  have e : z = (z.natAbs : Int) := by omega
  rw [← e]; exact h
set_option maxHeartbeats 4000000 in
theorem Of_walk_neg (n : Int) (w : World) (h0 : n < 0) :
  Calls Tryz.prog 183 #[.int .i64 n] w fun e w' => e = .returned (.agg #[.int .u64 18446744073709551615, .int .u64 (IntKind.u64.wrap n)]) ∧ Below w.heap.size w w' := by
 have hB_0 := Below.refl w.heap.size w
 obtain ⟨w1, hw1, pr_0, hb1, hs1⟩ := new_box w (w.heap.size) rfl [.int .u64 0, .int .u64 0] 118
 have hb1' : Below w.heap.size w w1 := hb1.mono (by omega)
 clear hb1
 have hB_1 := hB_0.trans (hb1'.mono hB_0.size)
 clear hb1' hB_0
 go_enter Tryz.func183, Tryz.ntmps183
 obtain ⟨pre0, pre1, pre2, pre3⟩ := pr_0.open2
 obtain ⟨sf1a, sf1b, sf1c, sf1d⟩ := pr_0.open2
 obtain ⟨sg1a, sg1b⟩ := Box.put2 pr_0 (.int .u64 18446744073709551615)
 go_wp2
 clear pre0 pre1 pre2 pre3 sf1a sf1b sf1c sf1d sg1a sg1b
 have hB_2 := below_setAll hB_1 (g := w.heap.size) (by omega) [.int .u64 18446744073709551615, .int .u64 (IntKind.u64.wrap n)]
 have pr_1 := pr_0.setAll [.int .u64 18446744073709551615, .int .u64 (IntKind.u64.wrap n)] rfl
 simp only [setAll, Nat.zero_add] at hB_2 pr_1
 clear hB_1 pr_0
 generalize (World.setCell (World.setCell w1 ⟨w.heap.size, 0, none⟩ (.int .u64 18446744073709551615)) ⟨w.heap.size, 1, none⟩ (.int .u64 (IntKind.u64.wrap n))) = w2 at *
 go_wp2
 obtain ⟨pre0, pre1, pre2, pre3⟩ := pr_1.open2
 exact bodyPost_ret (v := .agg #[.int .u64 18446744073709551615, .int .u64 (IntKind.u64.wrap n)]) (by simp [results, Tryz.results183, go_sem, pre0, pre1]) rfl ⟨rfl, hB_2⟩
set_option maxHeartbeats 4000000 in
theorem Of_walk_pos (n : Int) (w : World) (h0 : ¬ n < 0) :
  Calls Tryz.prog 183 #[.int .i64 n] w fun e w' => e = .returned (.agg #[.int .u64 0, .int .u64 (IntKind.u64.wrap n)]) ∧ Below w.heap.size w w' := by
 have hB_0 := Below.refl w.heap.size w
 obtain ⟨w1, hw1, pr_0, hb1, hs1⟩ := new_box w (w.heap.size) rfl [.int .u64 0, .int .u64 0] 118
 have hb1' : Below w.heap.size w w1 := hb1.mono (by omega)
 clear hb1
 have hB_1 := hB_0.trans (hb1'.mono hB_0.size)
 clear hb1' hB_0
 go_enter Tryz.func183, Tryz.ntmps183
 obtain ⟨pre0, pre1, pre2, pre3⟩ := pr_0.open2
 obtain ⟨sf1a, sf1b, sf1c, sf1d⟩ := pr_0.open2
 obtain ⟨sg1a, sg1b⟩ := Box.put2 pr_0 (.int .u64 0)
 go_wp2
 clear pre0 pre1 pre2 pre3 sf1a sf1b sf1c sf1d sg1a sg1b
 have hB_2 := below_setAll hB_1 (g := w.heap.size) (by omega) [.int .u64 0, .int .u64 (IntKind.u64.wrap n)]
 have pr_1 := pr_0.setAll [.int .u64 0, .int .u64 (IntKind.u64.wrap n)] rfl
 simp only [setAll, Nat.zero_add] at hB_2 pr_1
 clear hB_1 pr_0
 generalize (World.setCell (World.setCell w1 ⟨w.heap.size, 0, none⟩ (.int .u64 0)) ⟨w.heap.size, 1, none⟩ (.int .u64 (IntKind.u64.wrap n))) = w2 at *
 go_wp2
 obtain ⟨pre0, pre1, pre2, pre3⟩ := pr_1.open2
 exact bodyPost_ret (v := .agg #[.int .u64 0, .int .u64 (IntKind.u64.wrap n)]) (by simp [results, Tryz.results183, go_sem, pre0, pre1]) rfl ⟨rfl, hB_2⟩
theorem wOf_any (n : Int) (h : -9223372036854775808 ≤ n) (h1 : n < 9223372036854775808) (w : World) : Calls Tryz.prog 183 #[.int .i64 n] w fun e w' => AnsW w w' e n := by
 by_cases h0 : n < 0
 ·obtain ⟨a, b⟩ := w_int_neg h h0
  have := Of_walk_neg n w h0
  unfold AnsW; rw [a, b]; exact this
 ·obtain ⟨a, b⟩ := w_int_pos h1 (Int.not_lt.1 h0)
  have := Of_walk_pos n w h0
  unfold AnsW; rw [a, b]; exact this
end Go.Proofs.YtnabdopnlinklaaGreat
/- The calls of wide: Sign, Cmp. -/
namespace Go.Proofs.YtnabdopnlinklaaGreat
open Go.RowKit Go.MagM
set_option maxHeartbeats 4000000 in
theorem Sign_w_zero  (w : World) :
  Calls Tryz.prog 56 #[.agg #[.int .u64 0, .int .u64 0]] w fun e w' => e = .returned (.int .i64 (0)) ∧ Below w.heap.size w w' := by
 have hB_0 := Below.refl w.heap.size w
 obtain ⟨w1, hw1, pa_0, hb1, hs1⟩ := new_box w (w.heap.size) rfl [.int .u64 0, .int .u64 0] 118
 have hb1' : Below w.heap.size w w1 := hb1.mono (by omega)
 clear hb1
 have hB_1 := hB_0.trans (hb1'.mono hB_0.size)
 clear hb1' hB_0
 go_enter Tryz.func56, Tryz.ntmps56
 obtain ⟨pae0, pae1, pae2, pae3⟩ := pa_0.open2
 go_wp2
 go_ret
 exact ⟨rfl, hB_1⟩
set_option maxHeartbeats 4000000 in
theorem Sign_w_neg (ah al : Nat) (h0 : ¬ ah = 0) (hbel : ∀ w, Calls Tryz.prog 111 #[.agg #[.int .u64 ((ah : Nat) : Int), .int .u64 ((al : Nat) : Int)]] w fun e w' => e = .returned (.bool true) ∧ Below w.heap.size w w') (w : World) :
  Calls Tryz.prog 56 #[.agg #[.int .u64 ((ah : Nat) : Int), .int .u64 ((al : Nat) : Int)]] w fun e w' => e = .returned (.int .i64 (-1)) ∧ Below w.heap.size w w' := by
 have hB_0 := Below.refl w.heap.size w
 obtain ⟨w1, hw1, pa_0, hb1, hs1⟩ := new_box w (w.heap.size) rfl [.int .u64 ((ah : Nat) : Int), .int .u64 ((al : Nat) : Int)] 118
 have hb1' : Below w.heap.size w w1 := hb1.mono (by omega)
 clear hb1
 have hB_1 := hB_0.trans (hb1'.mono hB_0.size)
 clear hb1' hB_0
 go_enter Tryz.func56, Tryz.ntmps56
 obtain ⟨pae0, pae1, pae2, pae3⟩ := pa_0.open2
 go_wp2_with fail
 refine (hbel _).mono ?_
 rintro e w2 ⟨rfl, hb2⟩
 clear pae0 pae1 pae2 pae3
 have hB_2 := hB_1.trans (hb2.mono hB_1.size)
 have pa_1 := pa_0.below hb2
 clear hb2 hB_1 pa_0
 obtain ⟨pae0, pae1, pae2, pae3⟩ := pa_1.open2
 go_wp2
 go_ret
 exact ⟨rfl, hB_2⟩
set_option maxHeartbeats 4000000 in
theorem Sign_w_pos (ah al : Nat) (h0 : ¬ ah = 0) (hbel : ∀ w, Calls Tryz.prog 111 #[.agg #[.int .u64 ((ah : Nat) : Int), .int .u64 ((al : Nat) : Int)]] w fun e w' => e = .returned (.bool false) ∧ Below w.heap.size w w') (w : World) :
  Calls Tryz.prog 56 #[.agg #[.int .u64 ((ah : Nat) : Int), .int .u64 ((al : Nat) : Int)]] w fun e w' => e = .returned (.int .i64 (1)) ∧ Below w.heap.size w w' := by
 have hB_0 := Below.refl w.heap.size w
 obtain ⟨w1, hw1, pa_0, hb1, hs1⟩ := new_box w (w.heap.size) rfl [.int .u64 ((ah : Nat) : Int), .int .u64 ((al : Nat) : Int)] 118
 have hb1' : Below w.heap.size w w1 := hb1.mono (by omega)
 clear hb1
 have hB_1 := hB_0.trans (hb1'.mono hB_0.size)
 clear hb1' hB_0
 go_enter Tryz.func56, Tryz.ntmps56
 obtain ⟨pae0, pae1, pae2, pae3⟩ := pa_0.open2
 go_wp2_with fail
 refine (hbel _).mono ?_
 rintro e w2 ⟨rfl, hb2⟩
 clear pae0 pae1 pae2 pae3
 have hB_2 := hB_1.trans (hb2.mono hB_1.size)
 have pa_1 := pa_0.below hb2
 clear hb2 hB_1 pa_0
 obtain ⟨pae0, pae1, pae2, pae3⟩ := pa_1.open2
 go_wp2
 go_ret
 exact ⟨rfl, hB_2⟩
set_option maxHeartbeats 4000000 in
theorem Sign_w_low (al : Nat) (h0 : ¬ al = 0) (hbel : ∀ w, Calls Tryz.prog 111 #[.agg #[.int .u64 0, .int .u64 ((al : Nat) : Int)]] w fun e w' => e = .returned (.bool false) ∧ Below w.heap.size w w') (w : World) :
  Calls Tryz.prog 56 #[.agg #[.int .u64 0, .int .u64 ((al : Nat) : Int)]] w fun e w' => e = .returned (.int .i64 (1)) ∧ Below w.heap.size w w' := by
 have hB_0 := Below.refl w.heap.size w
 obtain ⟨w1, hw1, pa_0, hb1, hs1⟩ := new_box w (w.heap.size) rfl [.int .u64 0, .int .u64 ((al : Nat) : Int)] 118
 have hb1' : Below w.heap.size w w1 := hb1.mono (by omega)
 clear hb1
 have hB_1 := hB_0.trans (hb1'.mono hB_0.size)
 clear hb1' hB_0
 go_enter Tryz.func56, Tryz.ntmps56
 obtain ⟨pae0, pae1, pae2, pae3⟩ := pa_0.open2
 go_wp2_with fail
 refine (hbel _).mono ?_
 rintro e w2 ⟨rfl, hb2⟩
 clear pae0 pae1 pae2 pae3
 have hB_2 := hB_1.trans (hb2.mono hB_1.size)
 have pa_1 := pa_0.below hb2
 clear hb2 hB_1 pa_0
 obtain ⟨pae0, pae1, pae2, pae3⟩ := pa_1.open2
 go_wp2
 go_ret
 exact ⟨rfl, hB_2⟩
/-- The number of 128 bits that has these words. -/
def wrapW (z : Int) : Int := (z + 170141183460469231731687303715884105728) % 340282366920938463463374607431768211456 - 170141183460469231731687303715884105728
theorem wrapW_in (z : Int) : InW (wrapW z) := by unfold wrapW InW; omega
theorem wrapW_h (z : Int) : wh (wrapW z) = wh z := by unfold wrapW wh; omega
theorem wrapW_l (z : Int) : wl (wrapW z) = wl z := by unfold wrapW wl; omega
theorem wrapW_self {z : Int} (h : InW z) : wrapW z = z := by unfold wrapW; unfold InW at h; omega
theorem wbelow_all (z : Int) (w : World) : Calls Tryz.prog 111 #[.agg #[.int .u64 ((wh (z) : Nat) : Int), .int .u64 ((wl (z) : Nat) : Int)]] w fun e w' => e = .returned (.bool (decide (wrapW z < 0))) ∧ Below w.heap.size w w' := by
 have h := wbelow_any (wrapW z) (wrapW_in z) w
 rw [wrapW_h, wrapW_l] at h
 exact h
theorem wSign_all (z : Int) (w : World) : Calls Tryz.prog 56 #[.agg #[.int .u64 ((wh (z) : Nat) : Int), .int .u64 ((wl (z) : Nat) : Int)]] w fun e w' => e = .returned (.int .i64 (wrapW z).sign) ∧ Below w.heap.size w w' := by
 have hz := wrapW_in z
 have h1 := wrapW_h z; have h2 := wrapW_l z
 have hbel := fun w => wbelow_all z w
 rw [← h1, ← h2] at *
 generalize wrapW z = x at *
 have hm := w_neg hz
 have hw := w_mod x
 by_cases hh : wh x = 0
 ·by_cases hl : wl x = 0
  ·have hx : x = 0 := by rw [hh, hl] at hw; unfold InW at hz; omega
   subst hx
   rw [wh_zero, wl_zero]
   exact Sign_w_zero w
  ·have hx : 0 < x := by rw [hh] at hw; unfold InW at hz; omega
   rw [Int.sign_eq_one_of_pos hx]
   rw [hh] at hbel ⊢
   refine Sign_w_low _ hl ?_ w
   intro w
   have := hbel w
   rwa [decide_eq_false (by omega : ¬ x < 0)] at this
 ·by_cases hx : x < 0
  ·rw [Int.sign_eq_neg_one_of_neg hx]
   refine Sign_w_neg _ _ hh ?_ w
   intro w
   have := hbel w
   rwa [decide_eq_true hx] at this
  ·have hx0 : 0 < x := by unfold InW at hz; omega
   rw [Int.sign_eq_one_of_pos hx0]
   refine Sign_w_pos _ _ hh ?_ w
   intro w
   have := hbel w
   rwa [decide_eq_false hx] at this
end Go.Proofs.YtnabdopnlinklaaGreat
/- The calls of wide: Add, Sub, Neg. -/
namespace Go.Proofs.YtnabdopnlinklaaGreat
open Go.RowKit Go.MagM
theorem bel_is {z : Int} {b : Bool} (h : decide (wrapW z < 0) = b) : ∀ w, Calls Tryz.prog 111 #[.agg #[.int .u64 ((wh (z) : Nat) : Int), .int .u64 ((wl (z) : Nat) : Int)]] w fun e w' => e = .returned (.bool b) ∧ Below w.heap.size w w' := by
  intro w; subst h; exact wbelow_all z w
end Go.Proofs.YtnabdopnlinklaaGreat
/- The calls of wide: Mul, Det. -/
namespace Go.Proofs.YtnabdopnlinklaaGreat
open Go.RowKit Go.MagM
theorem mul64_is (x y H L : Nat) (w : World) (hx : x < B) (hy : y < B) (h1 : x * y / B = H) (h2 : x * y % B = L) :
  Calls Tryz.prog 182 #[.int .u64 ((x : Nat) : Int), .int .u64 ((y : Nat) : Int)] w fun e w' => e = .returned (.tuple #[.int .u64 ((H : Nat) : Int), .int .u64 ((L : Nat) : Int)]) ∧ Below w.heap.size w w' := by
 subst h1; subst h2
 exact (mul64_any x y w hx hy).mono fun e w' h => by obtain ⟨h1, rfl⟩ := h; exact ⟨h1, Below.refl _ _⟩
theorem inW_int {n : Int} (h : -9223372036854775808 ≤ n) (h1 : n < 9223372036854775808) : InW n := by unfold InW; omega
set_option maxHeartbeats 4000000 in
theorem wMul_w_tt (a b : Int) (ha1 : -9223372036854775808 ≤ a) (ha2 : a < 9223372036854775808) (hb1 : -9223372036854775808 ≤ b) (hb2 : b < 9223372036854775808) (H L H' L' : Nat) (sa : a < 0) (sb : b < 0) (cm : ∀ w, Calls Tryz.prog 182 #[.int .u64 ((wl ((a.natAbs : Int)) : Nat) : Int), .int .u64 ((wl ((b.natAbs : Int)) : Nat) : Int)] w fun e w' => e = .returned (.tuple #[.int .u64 ((H : Nat) : Int), .int .u64 ((L : Nat) : Int)]) ∧ Below w.heap.size w w') (hac : ∀ w, Calls Tryz.prog 165 #[.agg #[.int .u64 ((H : Nat) : Int), .int .u64 ((L : Nat) : Int)]] w fun e w' => e = .returned (.agg #[.int .u64 ((H' : Nat) : Int), .int .u64 ((L' : Nat) : Int)]) ∧ Below w.heap.size w w') (w : World) :
  Calls Tryz.prog 161 #[.int .i64 a, .int .i64 b] w fun e w' => e = .returned (.agg #[.int .u64 ((H : Nat) : Int), .int .u64 ((L : Nat) : Int)]) ∧ Below w.heap.size w w' := by
 have hB_0 := Below.refl w.heap.size w
 have CM := Lib.hid cm; have CA := Lib.hid hac; have IA := Lib.hid (inW_int ha1 ha2); have IB := Lib.hid (inW_int hb1 hb2); have HA1 := Lib.hid ha1; have HA2 := Lib.hid ha2; have HB1 := Lib.hid hb1; have HB2 := Lib.hid hb2
 clear cm hac ha1 ha2 hb1 hb2
 have qa : decide (a < 0) = true := by simp [sa]
 have qb : decide (b < 0) = true := by simp [sb]
 clear sa sb
 have hfa : ∀ w : World, (Instr.field 118 (.agg #[.int .u64 ((wh ((a.natAbs : Int)) : Nat) : Int), .int .u64 ((wl ((a.natAbs : Int)) : Nat) : Int)]) 1).run Tryz.prog w = .ok (.int .u64 ((wl ((a.natAbs : Int)) : Nat) : Int)) w := fun _ => by kernel_rfl
 have hfb : ∀ w : World, (Instr.field 118 (.agg #[.int .u64 ((wh ((b.natAbs : Int)) : Nat) : Int), .int .u64 ((wl ((b.natAbs : Int)) : Nat) : Int)]) 1).run Tryz.prog w = .ok (.int .u64 ((wl ((b.natAbs : Int)) : Nat) : Int)) w := fun _ => by kernel_rfl
 obtain ⟨w1, hw1, pr_0, hb1, hs1⟩ := new_box w (w.heap.size) rfl [.int .u64 0, .int .u64 0] 118
 have hb1' : Below w.heap.size w w1 := hb1.mono (by omega)
 clear hb1
 have hB_1 := hB_0.trans (hb1'.mono hB_0.size)
 clear hb1' hB_0
 go_enter Tryz.func161, Tryz.ntmps161
 obtain ⟨pre0, pre1, pre2, pre3⟩ := pr_0.open2
 go_wp2_with fail
 refine (wOf_any a HA1.out HA2.out _).mono ?_
 rintro e w2 ⟨rfl, hb2⟩
 clear pre0 pre1 pre2 pre3
 have hB_2 := hB_1.trans (hb2.mono hB_1.size)
 have pr_1 := pr_0.below hb2
 clear hb2 hB_1 pr_0
 obtain ⟨pre0, pre1, pre2, pre3⟩ := pr_1.open2
 go_wp2_with fail
 refine (size_any a _ IA.out).mono ?_
 rintro e w3 ⟨rfl, hb3⟩
 clear pre0 pre1 pre2 pre3
 have hB_3 := hB_2.trans (hb3.mono hB_2.size)
 have pr_2 := pr_1.below hb3
 clear hb3 hB_2 pr_1
 obtain ⟨pre0, pre1, pre2, pre3⟩ := pr_2.open2
 go_wp2_with fail
 refine (wOf_any b HB1.out HB2.out _).mono ?_
 rintro e w4 ⟨rfl, hb4⟩
 clear pre0 pre1 pre2 pre3
 have hB_4 := hB_3.trans (hb4.mono hB_3.size)
 have pr_3 := pr_2.below hb4
 clear hb4 hB_3 pr_2
 obtain ⟨pre0, pre1, pre2, pre3⟩ := pr_3.open2
 go_wp2_with fail
 refine (size_any b _ IB.out).mono ?_
 rintro e w5 ⟨rfl, hb5⟩
 clear pre0 pre1 pre2 pre3
 have hB_5 := hB_4.trans (hb5.mono hB_4.size)
 have pr_4 := pr_3.below hb5
 clear hb5 hB_4 pr_3
 obtain ⟨pre0, pre1, pre2, pre3⟩ := pr_4.open2
 go_wp2_with fail
 refine (CM.out _).mono ?_
 rintro e w6 ⟨rfl, hb6⟩
 clear pre0 pre1 pre2 pre3
 have hB_6 := hB_5.trans (hb6.mono hB_5.size)
 have pr_5 := pr_4.below hb6
 clear hb6 hB_5 pr_4
 obtain ⟨pre0, pre1, pre2, pre3⟩ := pr_5.open2
 clear pre0 pre1 pre2 pre3
 have hl1pr := pr_5.lt
 have hl1B := hB_6.size
 obtain ⟨w7, hw7, pp_0, hb7, hs7⟩ := new_box w6 (w6.heap.size) rfl [.int .u64 ((H : Nat) : Int), .int .u64 ((L : Nat) : Int)] 118
 have hb7' : Below w6.heap.size w6 w7 := hb7.mono (by omega)
 clear hb7
 have hB_7 := hB_6.trans (hb7'.mono hB_6.size)
 have pr_6 := pr_5.below hb7'
 clear hb7' hB_6 pr_5
 obtain ⟨pre0, pre1, pre2, pre3⟩ := pr_6.open2
 obtain ⟨ppe0, ppe1, ppe2, ppe3⟩ := pp_0.open2
 obtain ⟨sf1a, sf1b, sf1c, sf1d⟩ := pr_6.open2
 obtain ⟨sg1a, sg1b⟩ := Box.put2 pr_6 (.int .u64 ((H : Nat) : Int))
 go_wp2
 clear pre0 pre1 pre2 pre3 ppe0 ppe1 ppe2 ppe3 sf1a sf1b sf1c sf1d sg1a sg1b
 have hB_8 := below_setAll hB_7 (g := w.heap.size) (by omega) [.int .u64 ((H : Nat) : Int), .int .u64 ((L : Nat) : Int)]
 have pp_1 := pp_0.farAll (g' := w.heap.size) (by omega) [.int .u64 ((H : Nat) : Int), .int .u64 ((L : Nat) : Int)]
 have pr_7 := pr_6.setAll [.int .u64 ((H : Nat) : Int), .int .u64 ((L : Nat) : Int)] rfl
 simp only [setAll, Nat.zero_add] at hB_8 pr_7 pp_1
 clear hB_7 pp_0 pr_6
 generalize (World.setCell (World.setCell w7 ⟨w.heap.size, 0, none⟩ (.int .u64 ((H : Nat) : Int))) ⟨w.heap.size, 1, none⟩ (.int .u64 ((L : Nat) : Int))) = w8 at *
 go_wp2
 obtain ⟨pre0, pre1, pre2, pre3⟩ := pr_7.open2
 exact bodyPost_ret (v := .agg #[.int .u64 ((H : Nat) : Int), .int .u64 ((L : Nat) : Int)]) (by simp [results, Tryz.results161, go_sem, pre0, pre1]) rfl ⟨rfl, hB_8⟩
set_option maxHeartbeats 4000000 in
theorem wMul_w_tf (a b : Int) (ha1 : -9223372036854775808 ≤ a) (ha2 : a < 9223372036854775808) (hb1 : -9223372036854775808 ≤ b) (hb2 : b < 9223372036854775808) (H L H' L' : Nat) (sa : a < 0) (sb : ¬ b < 0) (cm : ∀ w, Calls Tryz.prog 182 #[.int .u64 ((wl ((a.natAbs : Int)) : Nat) : Int), .int .u64 ((wl ((b.natAbs : Int)) : Nat) : Int)] w fun e w' => e = .returned (.tuple #[.int .u64 ((H : Nat) : Int), .int .u64 ((L : Nat) : Int)]) ∧ Below w.heap.size w w') (hac : ∀ w, Calls Tryz.prog 165 #[.agg #[.int .u64 ((H : Nat) : Int), .int .u64 ((L : Nat) : Int)]] w fun e w' => e = .returned (.agg #[.int .u64 ((H' : Nat) : Int), .int .u64 ((L' : Nat) : Int)]) ∧ Below w.heap.size w w') (w : World) :
  Calls Tryz.prog 161 #[.int .i64 a, .int .i64 b] w fun e w' => e = .returned (.agg #[.int .u64 ((H' : Nat) : Int), .int .u64 ((L' : Nat) : Int)]) ∧ Below w.heap.size w w' := by
 have hB_0 := Below.refl w.heap.size w
 have CM := Lib.hid cm; have CA := Lib.hid hac; have IA := Lib.hid (inW_int ha1 ha2); have IB := Lib.hid (inW_int hb1 hb2); have HA1 := Lib.hid ha1; have HA2 := Lib.hid ha2; have HB1 := Lib.hid hb1; have HB2 := Lib.hid hb2
 clear cm hac ha1 ha2 hb1 hb2
 have qa : decide (a < 0) = true := by simp [sa]
 have qb : decide (b < 0) = false := by simp [sb]
 clear sa sb
 have hfa : ∀ w : World, (Instr.field 118 (.agg #[.int .u64 ((wh ((a.natAbs : Int)) : Nat) : Int), .int .u64 ((wl ((a.natAbs : Int)) : Nat) : Int)]) 1).run Tryz.prog w = .ok (.int .u64 ((wl ((a.natAbs : Int)) : Nat) : Int)) w := fun _ => by kernel_rfl
 have hfb : ∀ w : World, (Instr.field 118 (.agg #[.int .u64 ((wh ((b.natAbs : Int)) : Nat) : Int), .int .u64 ((wl ((b.natAbs : Int)) : Nat) : Int)]) 1).run Tryz.prog w = .ok (.int .u64 ((wl ((b.natAbs : Int)) : Nat) : Int)) w := fun _ => by kernel_rfl
 obtain ⟨w1, hw1, pr_0, hb1, hs1⟩ := new_box w (w.heap.size) rfl [.int .u64 0, .int .u64 0] 118
 have hb1' : Below w.heap.size w w1 := hb1.mono (by omega)
 clear hb1
 have hB_1 := hB_0.trans (hb1'.mono hB_0.size)
 clear hb1' hB_0
 go_enter Tryz.func161, Tryz.ntmps161
 obtain ⟨pre0, pre1, pre2, pre3⟩ := pr_0.open2
 go_wp2_with fail
 refine (wOf_any a HA1.out HA2.out _).mono ?_
 rintro e w2 ⟨rfl, hb2⟩
 clear pre0 pre1 pre2 pre3
 have hB_2 := hB_1.trans (hb2.mono hB_1.size)
 have pr_1 := pr_0.below hb2
 clear hb2 hB_1 pr_0
 obtain ⟨pre0, pre1, pre2, pre3⟩ := pr_1.open2
 go_wp2_with fail
 refine (size_any a _ IA.out).mono ?_
 rintro e w3 ⟨rfl, hb3⟩
 clear pre0 pre1 pre2 pre3
 have hB_3 := hB_2.trans (hb3.mono hB_2.size)
 have pr_2 := pr_1.below hb3
 clear hb3 hB_2 pr_1
 obtain ⟨pre0, pre1, pre2, pre3⟩ := pr_2.open2
 go_wp2_with fail
 refine (wOf_any b HB1.out HB2.out _).mono ?_
 rintro e w4 ⟨rfl, hb4⟩
 clear pre0 pre1 pre2 pre3
 have hB_4 := hB_3.trans (hb4.mono hB_3.size)
 have pr_3 := pr_2.below hb4
 clear hb4 hB_3 pr_2
 obtain ⟨pre0, pre1, pre2, pre3⟩ := pr_3.open2
 go_wp2_with fail
 refine (size_any b _ IB.out).mono ?_
 rintro e w5 ⟨rfl, hb5⟩
 clear pre0 pre1 pre2 pre3
 have hB_5 := hB_4.trans (hb5.mono hB_4.size)
 have pr_4 := pr_3.below hb5
 clear hb5 hB_4 pr_3
 obtain ⟨pre0, pre1, pre2, pre3⟩ := pr_4.open2
 go_wp2_with fail
 refine (CM.out _).mono ?_
 rintro e w6 ⟨rfl, hb6⟩
 clear pre0 pre1 pre2 pre3
 have hB_6 := hB_5.trans (hb6.mono hB_5.size)
 have pr_5 := pr_4.below hb6
 clear hb6 hB_5 pr_4
 obtain ⟨pre0, pre1, pre2, pre3⟩ := pr_5.open2
 clear pre0 pre1 pre2 pre3
 have hl1pr := pr_5.lt
 have hl1B := hB_6.size
 obtain ⟨w7, hw7, pp_0, hb7, hs7⟩ := new_box w6 (w6.heap.size) rfl [.int .u64 ((H : Nat) : Int), .int .u64 ((L : Nat) : Int)] 118
 have hb7' : Below w6.heap.size w6 w7 := hb7.mono (by omega)
 clear hb7
 have hB_7 := hB_6.trans (hb7'.mono hB_6.size)
 have pr_6 := pr_5.below hb7'
 clear hb7' hB_6 pr_5
 obtain ⟨pre0, pre1, pre2, pre3⟩ := pr_6.open2
 obtain ⟨ppe0, ppe1, ppe2, ppe3⟩ := pp_0.open2
 go_wp2_with fail
 refine (CA.out _).mono ?_
 rintro e w8 ⟨rfl, hb8⟩
 clear pre0 pre1 pre2 pre3 ppe0 ppe1 ppe2 ppe3
 have hB_8 := hB_7.trans (hb8.mono hB_7.size)
 have pr_7 := pr_6.below hb8
 have pp_1 := pp_0.below hb8
 clear hb8 hB_7 pr_6 pp_0
 obtain ⟨pre0, pre1, pre2, pre3⟩ := pr_7.open2
 obtain ⟨ppe0, ppe1, ppe2, ppe3⟩ := pp_1.open2
 obtain ⟨sf1a, sf1b, sf1c, sf1d⟩ := pr_7.open2
 obtain ⟨sg1a, sg1b⟩ := Box.put2 pr_7 (.int .u64 ((H' : Nat) : Int))
 go_wp2
 clear pre0 pre1 pre2 pre3 ppe0 ppe1 ppe2 ppe3 sf1a sf1b sf1c sf1d sg1a sg1b
 have hB_9 := below_setAll hB_8 (g := w.heap.size) (by omega) [.int .u64 ((H' : Nat) : Int), .int .u64 ((L' : Nat) : Int)]
 have pp_2 := pp_1.farAll (g' := w.heap.size) (by omega) [.int .u64 ((H' : Nat) : Int), .int .u64 ((L' : Nat) : Int)]
 have pr_8 := pr_7.setAll [.int .u64 ((H' : Nat) : Int), .int .u64 ((L' : Nat) : Int)] rfl
 simp only [setAll, Nat.zero_add] at hB_9 pr_8 pp_2
 clear hB_8 pp_1 pr_7
 generalize (World.setCell (World.setCell w8 ⟨w.heap.size, 0, none⟩ (.int .u64 ((H' : Nat) : Int))) ⟨w.heap.size, 1, none⟩ (.int .u64 ((L' : Nat) : Int))) = w9 at *
 go_wp2
 obtain ⟨pre0, pre1, pre2, pre3⟩ := pr_8.open2
 exact bodyPost_ret (v := .agg #[.int .u64 ((H' : Nat) : Int), .int .u64 ((L' : Nat) : Int)]) (by simp [results, Tryz.results161, go_sem, pre0, pre1]) rfl ⟨rfl, hB_9⟩
set_option maxHeartbeats 4000000 in
theorem wMul_w_ft (a b : Int) (ha1 : -9223372036854775808 ≤ a) (ha2 : a < 9223372036854775808) (hb1 : -9223372036854775808 ≤ b) (hb2 : b < 9223372036854775808) (H L H' L' : Nat) (sa : ¬ a < 0) (sb : b < 0) (cm : ∀ w, Calls Tryz.prog 182 #[.int .u64 ((wl ((a.natAbs : Int)) : Nat) : Int), .int .u64 ((wl ((b.natAbs : Int)) : Nat) : Int)] w fun e w' => e = .returned (.tuple #[.int .u64 ((H : Nat) : Int), .int .u64 ((L : Nat) : Int)]) ∧ Below w.heap.size w w') (hac : ∀ w, Calls Tryz.prog 165 #[.agg #[.int .u64 ((H : Nat) : Int), .int .u64 ((L : Nat) : Int)]] w fun e w' => e = .returned (.agg #[.int .u64 ((H' : Nat) : Int), .int .u64 ((L' : Nat) : Int)]) ∧ Below w.heap.size w w') (w : World) :
  Calls Tryz.prog 161 #[.int .i64 a, .int .i64 b] w fun e w' => e = .returned (.agg #[.int .u64 ((H' : Nat) : Int), .int .u64 ((L' : Nat) : Int)]) ∧ Below w.heap.size w w' := by
 have hB_0 := Below.refl w.heap.size w
 have CM := Lib.hid cm; have CA := Lib.hid hac; have IA := Lib.hid (inW_int ha1 ha2); have IB := Lib.hid (inW_int hb1 hb2); have HA1 := Lib.hid ha1; have HA2 := Lib.hid ha2; have HB1 := Lib.hid hb1; have HB2 := Lib.hid hb2
 clear cm hac ha1 ha2 hb1 hb2
 have qa : decide (a < 0) = false := by simp [sa]
 have qb : decide (b < 0) = true := by simp [sb]
 clear sa sb
 have hfa : ∀ w : World, (Instr.field 118 (.agg #[.int .u64 ((wh ((a.natAbs : Int)) : Nat) : Int), .int .u64 ((wl ((a.natAbs : Int)) : Nat) : Int)]) 1).run Tryz.prog w = .ok (.int .u64 ((wl ((a.natAbs : Int)) : Nat) : Int)) w := fun _ => by kernel_rfl
 have hfb : ∀ w : World, (Instr.field 118 (.agg #[.int .u64 ((wh ((b.natAbs : Int)) : Nat) : Int), .int .u64 ((wl ((b.natAbs : Int)) : Nat) : Int)]) 1).run Tryz.prog w = .ok (.int .u64 ((wl ((b.natAbs : Int)) : Nat) : Int)) w := fun _ => by kernel_rfl
 obtain ⟨w1, hw1, pr_0, hb1, hs1⟩ := new_box w (w.heap.size) rfl [.int .u64 0, .int .u64 0] 118
 have hb1' : Below w.heap.size w w1 := hb1.mono (by omega)
 clear hb1
 have hB_1 := hB_0.trans (hb1'.mono hB_0.size)
 clear hb1' hB_0
 go_enter Tryz.func161, Tryz.ntmps161
 obtain ⟨pre0, pre1, pre2, pre3⟩ := pr_0.open2
 go_wp2_with fail
 refine (wOf_any a HA1.out HA2.out _).mono ?_
 rintro e w2 ⟨rfl, hb2⟩
 clear pre0 pre1 pre2 pre3
 have hB_2 := hB_1.trans (hb2.mono hB_1.size)
 have pr_1 := pr_0.below hb2
 clear hb2 hB_1 pr_0
 obtain ⟨pre0, pre1, pre2, pre3⟩ := pr_1.open2
 go_wp2_with fail
 refine (size_any a _ IA.out).mono ?_
 rintro e w3 ⟨rfl, hb3⟩
 clear pre0 pre1 pre2 pre3
 have hB_3 := hB_2.trans (hb3.mono hB_2.size)
 have pr_2 := pr_1.below hb3
 clear hb3 hB_2 pr_1
 obtain ⟨pre0, pre1, pre2, pre3⟩ := pr_2.open2
 go_wp2_with fail
 refine (wOf_any b HB1.out HB2.out _).mono ?_
 rintro e w4 ⟨rfl, hb4⟩
 clear pre0 pre1 pre2 pre3
 have hB_4 := hB_3.trans (hb4.mono hB_3.size)
 have pr_3 := pr_2.below hb4
 clear hb4 hB_3 pr_2
 obtain ⟨pre0, pre1, pre2, pre3⟩ := pr_3.open2
 go_wp2_with fail
 refine (size_any b _ IB.out).mono ?_
 rintro e w5 ⟨rfl, hb5⟩
 clear pre0 pre1 pre2 pre3
 have hB_5 := hB_4.trans (hb5.mono hB_4.size)
 have pr_4 := pr_3.below hb5
 clear hb5 hB_4 pr_3
 obtain ⟨pre0, pre1, pre2, pre3⟩ := pr_4.open2
 go_wp2_with fail
 refine (CM.out _).mono ?_
 rintro e w6 ⟨rfl, hb6⟩
 clear pre0 pre1 pre2 pre3
 have hB_6 := hB_5.trans (hb6.mono hB_5.size)
 have pr_5 := pr_4.below hb6
 clear hb6 hB_5 pr_4
 obtain ⟨pre0, pre1, pre2, pre3⟩ := pr_5.open2
 clear pre0 pre1 pre2 pre3
 have hl1pr := pr_5.lt
 have hl1B := hB_6.size
 obtain ⟨w7, hw7, pp_0, hb7, hs7⟩ := new_box w6 (w6.heap.size) rfl [.int .u64 ((H : Nat) : Int), .int .u64 ((L : Nat) : Int)] 118
 have hb7' : Below w6.heap.size w6 w7 := hb7.mono (by omega)
 clear hb7
 have hB_7 := hB_6.trans (hb7'.mono hB_6.size)
 have pr_6 := pr_5.below hb7'
 clear hb7' hB_6 pr_5
 obtain ⟨pre0, pre1, pre2, pre3⟩ := pr_6.open2
 obtain ⟨ppe0, ppe1, ppe2, ppe3⟩ := pp_0.open2
 go_wp2_with fail
 refine (CA.out _).mono ?_
 rintro e w8 ⟨rfl, hb8⟩
 clear pre0 pre1 pre2 pre3 ppe0 ppe1 ppe2 ppe3
 have hB_8 := hB_7.trans (hb8.mono hB_7.size)
 have pr_7 := pr_6.below hb8
 have pp_1 := pp_0.below hb8
 clear hb8 hB_7 pr_6 pp_0
 obtain ⟨pre0, pre1, pre2, pre3⟩ := pr_7.open2
 obtain ⟨ppe0, ppe1, ppe2, ppe3⟩ := pp_1.open2
 obtain ⟨sf1a, sf1b, sf1c, sf1d⟩ := pr_7.open2
 obtain ⟨sg1a, sg1b⟩ := Box.put2 pr_7 (.int .u64 ((H' : Nat) : Int))
 go_wp2
 clear pre0 pre1 pre2 pre3 ppe0 ppe1 ppe2 ppe3 sf1a sf1b sf1c sf1d sg1a sg1b
 have hB_9 := below_setAll hB_8 (g := w.heap.size) (by omega) [.int .u64 ((H' : Nat) : Int), .int .u64 ((L' : Nat) : Int)]
 have pp_2 := pp_1.farAll (g' := w.heap.size) (by omega) [.int .u64 ((H' : Nat) : Int), .int .u64 ((L' : Nat) : Int)]
 have pr_8 := pr_7.setAll [.int .u64 ((H' : Nat) : Int), .int .u64 ((L' : Nat) : Int)] rfl
 simp only [setAll, Nat.zero_add] at hB_9 pr_8 pp_2
 clear hB_8 pp_1 pr_7
 generalize (World.setCell (World.setCell w8 ⟨w.heap.size, 0, none⟩ (.int .u64 ((H' : Nat) : Int))) ⟨w.heap.size, 1, none⟩ (.int .u64 ((L' : Nat) : Int))) = w9 at *
 go_wp2
 obtain ⟨pre0, pre1, pre2, pre3⟩ := pr_8.open2
 exact bodyPost_ret (v := .agg #[.int .u64 ((H' : Nat) : Int), .int .u64 ((L' : Nat) : Int)]) (by simp [results, Tryz.results161, go_sem, pre0, pre1]) rfl ⟨rfl, hB_9⟩
set_option maxHeartbeats 4000000 in
theorem wMul_w_ff (a b : Int) (ha1 : -9223372036854775808 ≤ a) (ha2 : a < 9223372036854775808) (hb1 : -9223372036854775808 ≤ b) (hb2 : b < 9223372036854775808) (H L H' L' : Nat) (sa : ¬ a < 0) (sb : ¬ b < 0) (cm : ∀ w, Calls Tryz.prog 182 #[.int .u64 ((wl ((a.natAbs : Int)) : Nat) : Int), .int .u64 ((wl ((b.natAbs : Int)) : Nat) : Int)] w fun e w' => e = .returned (.tuple #[.int .u64 ((H : Nat) : Int), .int .u64 ((L : Nat) : Int)]) ∧ Below w.heap.size w w') (hac : ∀ w, Calls Tryz.prog 165 #[.agg #[.int .u64 ((H : Nat) : Int), .int .u64 ((L : Nat) : Int)]] w fun e w' => e = .returned (.agg #[.int .u64 ((H' : Nat) : Int), .int .u64 ((L' : Nat) : Int)]) ∧ Below w.heap.size w w') (w : World) :
  Calls Tryz.prog 161 #[.int .i64 a, .int .i64 b] w fun e w' => e = .returned (.agg #[.int .u64 ((H : Nat) : Int), .int .u64 ((L : Nat) : Int)]) ∧ Below w.heap.size w w' := by
 have hB_0 := Below.refl w.heap.size w
 have CM := Lib.hid cm; have CA := Lib.hid hac; have IA := Lib.hid (inW_int ha1 ha2); have IB := Lib.hid (inW_int hb1 hb2); have HA1 := Lib.hid ha1; have HA2 := Lib.hid ha2; have HB1 := Lib.hid hb1; have HB2 := Lib.hid hb2
 clear cm hac ha1 ha2 hb1 hb2
 have qa : decide (a < 0) = false := by simp [sa]
 have qb : decide (b < 0) = false := by simp [sb]
 clear sa sb
 have hfa : ∀ w : World, (Instr.field 118 (.agg #[.int .u64 ((wh ((a.natAbs : Int)) : Nat) : Int), .int .u64 ((wl ((a.natAbs : Int)) : Nat) : Int)]) 1).run Tryz.prog w = .ok (.int .u64 ((wl ((a.natAbs : Int)) : Nat) : Int)) w := fun _ => by kernel_rfl
 have hfb : ∀ w : World, (Instr.field 118 (.agg #[.int .u64 ((wh ((b.natAbs : Int)) : Nat) : Int), .int .u64 ((wl ((b.natAbs : Int)) : Nat) : Int)]) 1).run Tryz.prog w = .ok (.int .u64 ((wl ((b.natAbs : Int)) : Nat) : Int)) w := fun _ => by kernel_rfl
 obtain ⟨w1, hw1, pr_0, hb1, hs1⟩ := new_box w (w.heap.size) rfl [.int .u64 0, .int .u64 0] 118
 have hb1' : Below w.heap.size w w1 := hb1.mono (by omega)
 clear hb1
 have hB_1 := hB_0.trans (hb1'.mono hB_0.size)
 clear hb1' hB_0
 go_enter Tryz.func161, Tryz.ntmps161
 obtain ⟨pre0, pre1, pre2, pre3⟩ := pr_0.open2
 go_wp2_with fail
 refine (wOf_any a HA1.out HA2.out _).mono ?_
 rintro e w2 ⟨rfl, hb2⟩
 clear pre0 pre1 pre2 pre3
 have hB_2 := hB_1.trans (hb2.mono hB_1.size)
 have pr_1 := pr_0.below hb2
 clear hb2 hB_1 pr_0
 obtain ⟨pre0, pre1, pre2, pre3⟩ := pr_1.open2
 go_wp2_with fail
 refine (size_any a _ IA.out).mono ?_
 rintro e w3 ⟨rfl, hb3⟩
 clear pre0 pre1 pre2 pre3
 have hB_3 := hB_2.trans (hb3.mono hB_2.size)
 have pr_2 := pr_1.below hb3
 clear hb3 hB_2 pr_1
 obtain ⟨pre0, pre1, pre2, pre3⟩ := pr_2.open2
 go_wp2_with fail
 refine (wOf_any b HB1.out HB2.out _).mono ?_
 rintro e w4 ⟨rfl, hb4⟩
 clear pre0 pre1 pre2 pre3
 have hB_4 := hB_3.trans (hb4.mono hB_3.size)
 have pr_3 := pr_2.below hb4
 clear hb4 hB_3 pr_2
 obtain ⟨pre0, pre1, pre2, pre3⟩ := pr_3.open2
 go_wp2_with fail
 refine (size_any b _ IB.out).mono ?_
 rintro e w5 ⟨rfl, hb5⟩
 clear pre0 pre1 pre2 pre3
 have hB_5 := hB_4.trans (hb5.mono hB_4.size)
 have pr_4 := pr_3.below hb5
 clear hb5 hB_4 pr_3
 obtain ⟨pre0, pre1, pre2, pre3⟩ := pr_4.open2
 go_wp2_with fail
 refine (CM.out _).mono ?_
 rintro e w6 ⟨rfl, hb6⟩
 clear pre0 pre1 pre2 pre3
 have hB_6 := hB_5.trans (hb6.mono hB_5.size)
 have pr_5 := pr_4.below hb6
 clear hb6 hB_5 pr_4
 obtain ⟨pre0, pre1, pre2, pre3⟩ := pr_5.open2
 clear pre0 pre1 pre2 pre3
 have hl1pr := pr_5.lt
 have hl1B := hB_6.size
 obtain ⟨w7, hw7, pp_0, hb7, hs7⟩ := new_box w6 (w6.heap.size) rfl [.int .u64 ((H : Nat) : Int), .int .u64 ((L : Nat) : Int)] 118
 have hb7' : Below w6.heap.size w6 w7 := hb7.mono (by omega)
 clear hb7
 have hB_7 := hB_6.trans (hb7'.mono hB_6.size)
 have pr_6 := pr_5.below hb7'
 clear hb7' hB_6 pr_5
 obtain ⟨pre0, pre1, pre2, pre3⟩ := pr_6.open2
 obtain ⟨ppe0, ppe1, ppe2, ppe3⟩ := pp_0.open2
 obtain ⟨sf1a, sf1b, sf1c, sf1d⟩ := pr_6.open2
 obtain ⟨sg1a, sg1b⟩ := Box.put2 pr_6 (.int .u64 ((H : Nat) : Int))
 go_wp2
 clear pre0 pre1 pre2 pre3 ppe0 ppe1 ppe2 ppe3 sf1a sf1b sf1c sf1d sg1a sg1b
 have hB_8 := below_setAll hB_7 (g := w.heap.size) (by omega) [.int .u64 ((H : Nat) : Int), .int .u64 ((L : Nat) : Int)]
 have pp_1 := pp_0.farAll (g' := w.heap.size) (by omega) [.int .u64 ((H : Nat) : Int), .int .u64 ((L : Nat) : Int)]
 have pr_7 := pr_6.setAll [.int .u64 ((H : Nat) : Int), .int .u64 ((L : Nat) : Int)] rfl
 simp only [setAll, Nat.zero_add] at hB_8 pr_7 pp_1
 clear hB_7 pp_0 pr_6
 generalize (World.setCell (World.setCell w7 ⟨w.heap.size, 0, none⟩ (.int .u64 ((H : Nat) : Int))) ⟨w.heap.size, 1, none⟩ (.int .u64 ((L : Nat) : Int))) = w8 at *
 go_wp2
 obtain ⟨pre0, pre1, pre2, pre3⟩ := pr_7.open2
 exact bodyPost_ret (v := .agg #[.int .u64 ((H : Nat) : Int), .int .u64 ((L : Nat) : Int)]) (by simp [results, Tryz.results161, go_sem, pre0, pre1]) rfl ⟨rfl, hB_8⟩
theorem wMul_any (a b : Int) (ha1 : -9223372036854775808 ≤ a) (ha2 : a < 9223372036854775808) (hb1 : -9223372036854775808 ≤ b) (hb2 : b < 9223372036854775808) (w : World) :
  Calls Tryz.prog 161 #[.int .i64 a, .int .i64 b] w fun e w' => AnsW w w' e (a * b) := by
 obtain ⟨ea, la⟩ := w_abs_int ha1 ha2
 obtain ⟨eb, lb⟩ := w_abs_int hb1 hb2
 obtain ⟨x, hx⟩ : ∃ x : Int, x = ((a.natAbs * b.natAbs : Nat) : Int) := ⟨_, rfl⟩
 have hlt : a.natAbs * b.natAbs < B * B := Nat.mul_lt_mul'' la lb
 have hw := w_mod x
 have h1 := wh_lt x; have h2 := wl_lt x
 have q1 : a.natAbs * b.natAbs / B = wh x := by
  simp only [B_eq] at *; omega
 have q2 : a.natAbs * b.natAbs % B = wl x := by
  simp only [B_eq] at *; omega
 have cm := fun w => mul64_is a.natAbs b.natAbs (wh x) (wl x) w la lb q1 q2
 rw [← ea, ← eb] at cm
 have hac := fun w => across_any x w
 have hm : ((a.natAbs * b.natAbs : Nat) : Int) = (a.natAbs : Int) * (b.natAbs : Int) := Int.natCast_mul _ _
 by_cases sa : a < 0 <;> by_cases sb : b < 0
 ·have e : a * b = x := by
   rw [hx, hm, show (a.natAbs : Int) = -a by omega, show (b.natAbs : Int) = -b by omega]; simp [Int.neg_mul, Int.mul_neg]
  rw [e]; exact wMul_w_tt a b ha1 ha2 hb1 hb2 _ _ _ _ sa sb cm hac w
 ·have e : a * b = -x := by
   rw [hx, hm, show (a.natAbs : Int) = -a by omega, show (b.natAbs : Int) = b by omega]; simp [Int.neg_mul]
  rw [e]; exact wMul_w_tf a b ha1 ha2 hb1 hb2 _ _ _ _ sa sb cm hac w
 ·have e : a * b = -x := by
   rw [hx, hm, show (a.natAbs : Int) = a by omega, show (b.natAbs : Int) = -b by omega]; simp [Int.mul_neg]
  rw [e]; exact wMul_w_ft a b ha1 ha2 hb1 hb2 _ _ _ _ sa sb cm hac w
 ·have e : a * b = x := by
   rw [hx, hm, show (a.natAbs : Int) = a by omega, show (b.natAbs : Int) = b by omega]
  rw [e]; exact wMul_w_ff a b ha1 ha2 hb1 hb2 _ _ _ _ sa sb cm hac w
set_option maxHeartbeats 4000000 in
theorem wDet_w (a b c d x y : Int) (c1 : ∀ w, Calls Tryz.prog 161 #[.int .i64 a, .int .i64 d] w fun e w' => AnsW w w' e x) (c2 : ∀ w, Calls Tryz.prog 161 #[.int .i64 b, .int .i64 c] w fun e w' => AnsW w w' e y) (w : World) :
  Calls Tryz.prog 112 #[.int .i64 a, .int .i64 b, .int .i64 c, .int .i64 d] w fun e w' => AnsW w w' e (x - y) := by
 have hB_0 := Below.refl w.heap.size w
 have C1 := Lib.hid c1; have C2 := Lib.hid c2
 clear c1 c2
 obtain ⟨w1, hw1, pr_0, hb1, hs1⟩ := new_box w (w.heap.size) rfl [.int .u64 0, .int .u64 0] 118
 have hb1' : Below w.heap.size w w1 := hb1.mono (by omega)
 clear hb1
 have hB_1 := hB_0.trans (hb1'.mono hB_0.size)
 clear hb1' hB_0
 go_enter Tryz.func112, Tryz.ntmps112
 obtain ⟨pre0, pre1, pre2, pre3⟩ := pr_0.open2
 go_wp2_with fail
 refine (C1.out _).mono ?_
 rintro e w2 ⟨rfl, hb2⟩
 clear pre0 pre1 pre2 pre3
 have hB_2 := hB_1.trans (hb2.mono hB_1.size)
 have pr_1 := pr_0.below hb2
 clear hb2 hB_1 pr_0
 obtain ⟨pre0, pre1, pre2, pre3⟩ := pr_1.open2
 go_wp2_with fail
 refine (C2.out _).mono ?_
 rintro e w3 ⟨rfl, hb3⟩
 clear pre0 pre1 pre2 pre3
 have hB_3 := hB_2.trans (hb3.mono hB_2.size)
 have pr_2 := pr_1.below hb3
 clear hb3 hB_2 pr_1
 obtain ⟨pre0, pre1, pre2, pre3⟩ := pr_2.open2
 go_wp2_with fail
 refine (less_any x y _).mono ?_
 rintro e w4 ⟨rfl, hb4⟩
 clear pre0 pre1 pre2 pre3
 have hB_4 := hB_3.trans (hb4.mono hB_3.size)
 have pr_3 := pr_2.below hb4
 clear hb4 hB_3 pr_2
 obtain ⟨pre0, pre1, pre2, pre3⟩ := pr_3.open2
 obtain ⟨sf1a, sf1b, sf1c, sf1d⟩ := pr_3.open2
 obtain ⟨sg1a, sg1b⟩ := Box.put2 pr_3 (.int .u64 ((wh (x - y) : Nat) : Int))
 go_wp2
 clear pre0 pre1 pre2 pre3 sf1a sf1b sf1c sf1d sg1a sg1b
 have hB_5 := below_setAll hB_4 (g := w.heap.size) (by omega) [.int .u64 ((wh (x - y) : Nat) : Int), .int .u64 ((wl (x - y) : Nat) : Int)]
 have pr_4 := pr_3.setAll [.int .u64 ((wh (x - y) : Nat) : Int), .int .u64 ((wl (x - y) : Nat) : Int)] rfl
 simp only [setAll, Nat.zero_add] at hB_5 pr_4
 clear hB_4 pr_3
 generalize (World.setCell (World.setCell w4 ⟨w.heap.size, 0, none⟩ (.int .u64 ((wh (x - y) : Nat) : Int))) ⟨w.heap.size, 1, none⟩ (.int .u64 ((wl (x - y) : Nat) : Int))) = w5 at *
 go_wp2
 obtain ⟨pre0, pre1, pre2, pre3⟩ := pr_4.open2
 exact bodyPost_ret (v := .agg #[.int .u64 ((wh (x - y) : Nat) : Int), .int .u64 ((wl (x - y) : Nat) : Int)]) (by simp [results, Tryz.results112, go_sem, pre0, pre1]) rfl ⟨rfl, hB_5⟩
theorem wDet_any (a b c d : Int) (ha1 : -9223372036854775808 ≤ a) (ha2 : a < 9223372036854775808) (hb1 : -9223372036854775808 ≤ b) (hb2 : b < 9223372036854775808) (hc1 : -9223372036854775808 ≤ c) (hc2 : c < 9223372036854775808) (hd1 : -9223372036854775808 ≤ d) (hd2 : d < 9223372036854775808) (w : World) :
  Calls Tryz.prog 112 #[.int .i64 a, .int .i64 b, .int .i64 c, .int .i64 d] w fun e w' => AnsW w w' e (a * d - b * c) :=
 wDet_w a b c d _ _ (fun w => wMul_any a d ha1 ha2 hd1 hd2 w) (fun w => wMul_any b c hb1 hb2 hc1 hc2 w) w
end Go.Proofs.YtnabdopnlinklaaGreat
/- A region that draws its order, walked by hand: the two takes. Over any program. -/
namespace Go.MagM
open Go
section
variable {P : Program} {ops : Array Oper} {Q : Exit → Act → World → Prop} {md : Region.Mode} {S : World → Prop}
/-- Operation i yields v. -/
theorem reg_take (i : Nat) (oi : Oper) (v : Value) {fuel : Nat} {listed : Array Bool} {a : Act} {w : World} (hi : ops[i]? = some oi)
    (hs : Region.noSelect ops = true) (hf : Region.free md ops listed i = true) (hr : (Region.ready md ops listed).contains i = true)
    (hQ : ∀ c a w, Q (.panic c) (a.put oi.dst v) w → Q (.panic c) a w) (hw : Region.wanted oi (yielded ops a.tmps) = true) (hy : ∀ w, S w → (execOp a.eval oi).run P w = .ok (.value v) w) (hS : S w)
    (h : wpAnyH P md ops Q S fuel (listed.setIfInBounds i true) (a.put oi.dst v) w) : wpAnyH P md ops Q S (fuel + 1) listed a w :=
  wpAnyH_take hi hs hf hr hQ (Or.inl ⟨hw, hy⟩) hS h
/-- Operation i is not wanted. -/
theorem reg_skip (i : Nat) (oi : Oper) {fuel : Nat} {listed : Array Bool} {a : Act} {w : World} (hi : ops[i]? = some oi)
    (hs : Region.noSelect ops = true) (hf : Region.free md ops listed i = true) (hr : (Region.ready md ops listed).contains i = true)
    (hQ : ∀ c a w, Q (.panic c) (a.put oi.dst undef) w → Q (.panic c) a w) (hw : Region.wanted oi (yielded ops a.tmps) = false) (hS : S w)
    (h : wpAnyH P md ops Q S fuel (listed.setIfInBounds i true) (a.put oi.dst undef) w) : wpAnyH P md ops Q S (fuel + 1) listed a w :=
  wpAnyH_take hi hs hf hr hQ (Or.inr ⟨hw, rfl⟩) hS h
/-- Operation i alone comes up next. -/
theorem reg_call (i : Nat) (o : Oper) {fuel : Nat} {listed : Array Bool} {a : Act} {w : World} (hr : Region.ready md ops listed = [i]) (ho : ops[i]? = some o)
    (h : ∀ K' : Act → World → Prop, Shut (∀ a w, S w → (S w → wpAnyH P md ops Q S fuel (listed.setIfInBounds i true) a w) → K' a w) → if Region.wanted o (yielded ops a.tmps) = true then Oper.wp P o a w K' Q else K' (a.put o.dst undef) w) :
    wpAnyH P md ops Q S (fuel + 1) listed a w :=
  wpAnyH_ready hr (by simp) (AllReadyH.cons ho h AllReadyH.nil)
/-- The rest of the region, and its frame, under one name each. -/
theorem reg_grab {fuel : Nat} {listed : Array Bool} {a : Act} {w : World}
    (h : ∀ (WW : Nat → Array Bool → Act → World → Prop) (b : Act), (∀ f l a w, WW f l a w = wpAnyH P md ops Q S f l a w) → b = a → WW fuel listed b w) : wpAnyH P md ops Q S fuel listed a w :=
  h (wpAnyH P md ops Q S) a (fun _ _ _ _ => rfl) rfl
/-- One comes up, or another one. -/
theorem reg_all1 (i : Nat) (o : Oper) {fuel : Nat} {listed : Array Bool} {a : Act} {w : World} (hr : Region.ready md ops listed = [i]) (ho : ops[i]? = some o)
    (h : ∀ K' : Act → World → Prop, Shut (∀ a w, S w → (S w → wpAnyH P md ops Q S fuel (listed.setIfInBounds i true) a w) → K' a w) → if Region.wanted o (yielded ops a.tmps) = true then Oper.wp P o a w K' Q else K' (a.put o.dst undef) w) :
    wpAnyH P md ops Q S (fuel + 1) listed a w := reg_call i o hr ho h
theorem reg_all2 (i j : Nat) (o u : Oper) {fuel : Nat} {listed : Array Bool} {a : Act} {w : World} (hr : Region.ready md ops listed = [i, j]) (ho : ops[i]? = some o) (hu : ops[j]? = some u)
    (h : ∀ K' : Act → World → Prop, Shut (∀ a w, S w → (S w → wpAnyH P md ops Q S fuel (listed.setIfInBounds i true) a w) → K' a w) → if Region.wanted o (yielded ops a.tmps) = true then Oper.wp P o a w K' Q else K' (a.put o.dst undef) w)
    (k : ∀ K' : Act → World → Prop, Shut (∀ a w, S w → (S w → wpAnyH P md ops Q S fuel (listed.setIfInBounds j true) a w) → K' a w) → if Region.wanted u (yielded ops a.tmps) = true then Oper.wp P u a w K' Q else K' (a.put u.dst undef) w) :
    wpAnyH P md ops Q S (fuel + 1) listed a w :=
  wpAnyH_ready hr (by simp) (AllReadyH.cons ho h (AllReadyH.cons hu k AllReadyH.nil))
end
end Go.MagM
