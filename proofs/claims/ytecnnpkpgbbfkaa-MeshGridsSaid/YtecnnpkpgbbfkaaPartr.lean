/- Keys of two ints. -/
import Derived.Test.YtecnnpkpgbbfkaaPartm
import Derived.WideKeyArr
import Derived.DataShut
import Derived.Test.YtecnnpkpgbbfkaaParto
import Derived.Test.YtecnnpkpgbbfkaaPartj
import Derived.StillTailTactics
import Derived.BigQuiet
import Derived.Deep.QuietTactic
import Derived.Test.YtecnnpkpgbbfkaaParti
import Derived.Test.YtecnnpkpgbbfkaaPartf
namespace Go.Proofs.Ytecnnpkpgbbfkaa
open Go.RowKit Go.MagM Go.Maps Go.WideMaps Go.WideShapes
theorem arrKey2 : ArrKey Try.prog 22 3 2 := ⟨Try.underlying22, by kernel_rfl, by kernel_rfl, by kernel_rfl⟩
theorem keyed2 : Keyed Try.prog 22 := Keyed.of_law arrKey2.law
theorem wf_small {a : Int} (h : -1000000 ≤ a ∧ a ≤ 1000000) : (Lit.int .i64 a).wf = true := by
 rw [Lit.wf_int_iff]; exact ⟨by show -9223372036854775808 ≤ a; omega, by show a ≤ 9223372036854775807; omega⟩
theorem key2_of {a b : Int} (ha : -1000000 ≤ a ∧ a ≤ 1000000) (hb : -1000000 ≤ b ∧ b ≤ 1000000) : ∃ l, keyOf Try.prog 22 (.agg #[.int .i64 a, .int .i64 b]) = some l := by
 have h1 := wf_small ha
 have h2 := wf_small hb
 have hk : Try.prog.keyType 22 = true := by kernel_rfl
 have hf : Value.formed Try.prog 22 (.agg #[.int .i64 a, .int .i64 b]) = true := by kernel_rfl
 have hl : Try.prog.keyLits (Try.prog.types.size + 1) 22 [.int .i64 a, .int .i64 b] = some [.int .i64 a, .int .i64 b] := by
  have hs : Try.prog.types.size + 1 = (Try.prog.types.size - 1) + 1 + 1 := by have : 0 < Try.prog.types.size := of_decide_eq_true (by kernel_rfl); omega
  rw [hs]
  generalize Try.prog.types.size - 1 = d
  unfold Program.keyLits
  simp only [Try.underlying22]
  have c2 : Try.prog.cellsOf 22 = 2 := by kernel_rfl
  have c1 : Try.prog.cellsOf 3 = 1 := by kernel_rfl
  have hk1 : ∀ x : Int, (Lit.int .i64 x).wf = true → Try.prog.keyLits (d + 1) 3 [.int .i64 x] = some [.int .i64 x] := by
   intro x hx
   unfold Program.keyLits
   simp [Try.underlying3, hx]
  rw [if_pos (by rw [c2]; rfl), c1]
  simp [List.range, List.range.loop, hk1 a h1, hk1 b h2]
 refine ⟨.string (keyBytes [.int .i64 a, .int .i64 b]), ?_⟩
 unfold keyOf
 simp only [Try.underlying22, hk, hf, Bool.and_true, if_true]
 rw [show (Value.agg #[.int .i64 a, .int .i64 b]).cells.toList = [.int .i64 a, .int .i64 b] from rfl, hl]
 rfl
end Go.Proofs.Ytecnnpkpgbbfkaa
/- mesh's writers: Clone. -/
namespace Go.Proofs.Ytecnnpkpgbbfkaa
open Go.RowKit Go.MagM
theorem infoPt : (Try.prog.info? 62).map (fun i => (i.zero, i.size, i.bytes)) = some (some (.agg #[.int .i64 0, .int .i64 0]), 2, 16) := by kernel_rfl
set_option maxRecDepth 100000 in
set_option maxHeartbeats 16000000 in
theorem ptClone_any (b o n c : Nat) (xs : List Value) (w : World) (h0 : 0 < n) (hn9 : n ≤ 1000000) (hl : xs.length = n * 2) (h1 : ∀ u ∈ xs, u.oneCell' = true) (hc : ∀ j u, xs[j]? = some u → w.cell? ⟨b, o + j, none⟩ = some u) :
  Calls Try.prog 35 #[.slice (some ⟨b, o, none⟩) n c] w fun e w' => ∃ g c', e = .returned (.slice (some ⟨g, 0, none⟩) n c') ∧ w'.ownsRow w.heap.size 62 2 (.slice (some ⟨g, 0, none⟩) n c') n xs ∧ Below w.heap.size w w' := by
 obtain ⟨i0, hi, hz0, hz1, hz2⟩ := info_parts infoPt
 have HI := Lib.hid hi; have HZ0 := Lib.hid hz0; have HZ1 := Lib.hid hz1; have HZ2 := Lib.hid hz2
 clear hi hz0 hz1 hz2
 have heq : ∀ w : World, Sem.run Try.prog (binOp BinOp.eql 40 (Value.slice (some ⟨b, o, none⟩) n c) (Value.slice none 0 0)) w = Result.ok (Value.bool false) w := fun w => by kernel_rfl
 obtain ⟨w1, hw1, pe_0, hb1, hs1⟩ := new_box w (w.heap.size) rfl [] 62
 have hown : w1.ownsRow w.heap.size 62 2 (.slice (some ⟨w.heap.size, 0, none⟩) 0 0) 0 [] := by
  rw [← hw1]
  exact ⟨rfl, .inr ⟨w.heap.size, 0, #[], rfl, Nat.le_refl _, World.alloc_heap_new w _, Nat.le_refl _, Nat.zero_le _, rfl, rfl⟩⟩
 have hcs : ∀ j u, xs[j]? = some u → w1.cell? ((⟨b, o, none⟩ : Addr).add j) = some u := fun j u hu => by
  have h1 := hc j u hu
  rw [addr_add]
  exact (hb1.cell (p := ⟨b, o + j, none⟩) (World.block_lt_of_cell? w _ h1)).trans h1
 obtain ⟨v1, wa, hrun, rown, hgrow, hwh⟩ := run_append_where (P := Try.prog) w1 w.heap.size 40 40 62 i0 (.agg #[.int .i64 0, .int .i64 0]) 2 16 (by kernel_rfl) HI.out HZ0.out HZ1.out HZ2.out rfl (.slice (some ⟨w.heap.size, 0, none⟩) 0 0) 0 [] hown ⟨b, o, none⟩ n c xs h0 hl hcs h1 (by unfold maxLen; omega) (by omega) (by omega)
 rw [Nat.zero_add, List.nil_append] at rown
 have hBa : Below w.heap.size w wa := hb1.grown hgrow (by omega) (fun k hk => by have : w.heap.size = k := (by simpa [Value.ownBlock] using hk); omega)
 obtain ⟨q, hq⟩ : ∃ q, n = q + 1 := ⟨n - 1, by omega⟩
 obtain ⟨g, c', rfl⟩ := ownsRow_succ (hq ▸ rown)
 rw [← hq] at rown hrun
 have HR := Lib.hid rown; have HBA := Lib.hid hBa
 clear hown hcs rown hgrow hwh hBa hc hl h1 pe_0 hb1 hs1 hq
 go_enter Try.func35, Try.ntmps35
 go_wp2_with (refine wpList_append_row rfl _ _ 40 rfl rfl rfl hrun ?_)
 clear hrun
 go_wp2
 go_ret
 exact ⟨g, c', rfl, HR.out, HBA.out⟩
theorem pts_one : ∀ (l : List (Int × Int)) (u : Value), u ∈ ptsCells l → u.oneCell' = true
 | [], u, h => by cases h
 | q :: t, u, h => by
  rw [ptsCells] at h
  rcases List.mem_append.1 h with h | h
  ·simp at h; rcases h with rfl | rfl <;> rfl
  ·exact pts_one t u h
end Go.Proofs.Ytecnnpkpgbbfkaa
/- mesh's New. -/
namespace Go.MagM
open Go.RowKit
theorem rdV_some {S : List TriM} {t : Nat} {x y z : Int} (h : rdV S t = some (x, y, z)) : ∃ T, S[t]? = some T ∧ T.v0 = x ∧ T.v1 = y ∧ T.v2 = z := by
 unfold rdV at h
 cases hs : S[t]? with
 | none => rw [hs] at h; cases h
 | some T => rw [hs] at h; simp at h; exact ⟨T, rfl, h.1, h.2.1, h.2.2⟩
theorem live_of {S : List TriM} {t : Nat} {x y z : Int} (h : rdV S t = some (x, y, z)) (h0 : 0 ≤ x) : ∃ T, S[t]? = some T ∧ goneB T = false := by
 obtain ⟨T, h1, h2, h3, h4⟩ := rdV_some h
 exact ⟨T, h1, by unfold goneB; exact decide_eq_false (by rw [h2]; omega)⟩
/-- A mesh of one triangle and its ghosts, as so many rounds of New have linked it. -/
def newS (a b c : Int) : Nat → List TriM
 | 0 => [newT a b c, newT c b (-1), newT a c (-1), newT b a (-1)]
 | i + 1 => linkL (linkL (newS a b c i) 0 i (i + 1) 2 false) (i + 1) 0 ((i + 2) % 3 + 1) 1 false
theorem newS_v (a b c : Int) : ∀ i t, rdV (newS a b c i) t = rdV (newS a b c 0) t
 | 0, _ => rfl
 | i + 1, t => by
  show rdV (linkL (linkL (newS a b c i) 0 i (i + 1) 2 false) (i + 1) 0 ((i + 2) % 3 + 1) 1 false) t = _
  rw [linkL_v, linkL_v, newS_v a b c i t]
theorem newS_live {a b c : Nat} (i : Nat) {t : Nat} (ht : t < 4) : ∃ T, (newS a b c i)[t]? = some T ∧ goneB T = false := by
 have h := newS_v (a : Int) b c i t
 obtain rfl | rfl | rfl | rfl : t = 0 ∨ t = 1 ∨ t = 2 ∨ t = 3 := by omega
 ·exact live_of (x := a) (y := b) (z := c) (h.trans rfl) (by omega)
 ·exact live_of (x := c) (y := b) (z := -1) (h.trans rfl) (by omega)
 ·exact live_of (x := a) (y := c) (z := -1) (h.trans rfl) (by omega)
 ·exact live_of (x := b) (y := a) (z := -1) (h.trans rfl) (by omega)
theorem newS_mid {a b c : Nat} (i : Nat) {t : Nat} (ht : t < 4) : ∃ T, (linkL (newS a b c i) 0 i (i + 1) 2 false)[t]? = some T ∧ goneB T = false := by
 have h := (linkL_v (newS (a : Int) b c i) 0 i (i + 1) 2 false t).trans (newS_v (a : Int) b c i t)
 obtain rfl | rfl | rfl | rfl : t = 0 ∨ t = 1 ∨ t = 2 ∨ t = 3 := by omega
 ·exact live_of (x := a) (y := b) (z := c) (h.trans rfl) (by omega)
 ·exact live_of (x := c) (y := b) (z := -1) (h.trans rfl) (by omega)
 ·exact live_of (x := a) (y := c) (z := -1) (h.trans rfl) (by omega)
 ·exact live_of (x := b) (y := a) (z := -1) (h.trans rfl) (by omega)
/-- What New makes. -/
def newM (a b c : Int) : List TriM := [⟨a, b, c, 1, 2, 3, false, false, false⟩, ⟨c, b, -1, 3, 2, 0, false, false, false⟩, ⟨a, c, -1, 1, 3, 0, false, false, false⟩, ⟨b, a, -1, 2, 1, 0, false, false, false⟩]
theorem newS_end (a b c : Int) : newS a b c 3 = newM a b c := rfl
theorem free_none {S : List TriM} (h : ∀ T, T ∈ S → goneB T = false) : freeK S = none := by
 unfold freeK
 rw [List.findIdx?_eq_none_iff]
 exact h
theorem newT_live (a b : Nat) (c : Int) : goneB (newT a b c) = false := by
 unfold goneB newT; exact decide_eq_false (by simp only []; omega)
end Go.MagM
namespace Go.Proofs.Ytecnnpkpgbbfkaa
open Go.RowKit Go.MagM
theorem mkTri_is {lo mb pb pc : Nat} {tv : Value} {P : List (Int × Int)} {S : List TriM} (a b c r : Int) (S' : List TriM) (w : World) (h : MeshO 62 49 w lo mb pb pc tv P S) (hroom : S.length + 1 ≤ 1000000) (hr : ((makeK S : Nat) : Int) = r) (hS : makeM S a b c = S') :
  Calls Try.prog 37 #[.pointer (some ⟨mb, 0, none⟩), .int .i64 a, .int .i64 b, .int .i64 c] w fun e w' => ∃ tv', e = .returned (.int .i64 r) ∧ MeshO 62 49 w' lo mb pb pc tv' P S' ∧ Mut w w' mb tv tv' := by
 subst hr hS; exact mkTri_any a b c w h hroom
theorem addM {S : List TriM} (h : ∀ T, T ∈ S → goneB T = false) (a b c : Int) : makeK S = S.length ∧ makeM S a b c = S ++ [newT a b c] := by
 unfold makeK makeM; rw [free_none h]; exact ⟨rfl, rfl⟩
set_option maxRecDepth 100000 in
set_option maxHeartbeats 16000000 in
theorem New_yes (so : Option Addr) (sb n sc : Nat) (P : List (Int × Int)) (w : World) (hn : P.length = n) (h0 : 0 < n) (hn9 : n ≤ 1000000) (hP : InPs P) (ho : so = some ⟨sb, 0, none⟩) (hc : ∀ j u, (ptsCells P)[j]? = some u → w.cell? ⟨sb, 0 + j, none⟩ = some u) (a b c : Nat) (hz : turnM P (a : Int) (b : Int) (c : Int) = 1) :
  Calls Try.prog 16 #[.slice so n sc, .int .i64 (a : Int), .int .i64 (b : Int), .int .i64 (c : Int)] w fun e w' => ∃ mb pb pc tv, e = .returned (.tuple #[.pointer (some ⟨mb, 0, none⟩), .bool true]) ∧ MeshO 62 49 w' w.heap.size mb pb pc tv P (newM (a : Int) (b : Int) (c : Int)) ∧ w.heap.size ≤ pb ∧ Below w.heap.size w w' := by
 subst ho
 subst hn
 have hcl := ptClone_any sb 0 P.length sc (ptsCells P) w h0 hn9 (ptsCells_len P) (pts_one P) hc
 have HCL := Lib.hid hcl; have HPS := Lib.hid hP
 clear hcl hP hc
 go_enter Try.func16, Try.ntmps16
 go_wp2_with fail
 refine HCL.out.mono ?_
 rintro e w1 ⟨g, c', rfl, hr1, hb1⟩
 have l1 := hr1.lt g rfl
 obtain ⟨w2, hw2, pm_0, hb2, hs2⟩ := new_box w1 _ rfl [.slice (some ⟨g, 0, none⟩) P.length c', .slice none 0 0] 43
 have hm_0 : MeshO 62 49 w2 w.heap.size w1.heap.size g c' (.slice none 0 0) P [] := ⟨pm_0, owns_blow hr1 hb2, World.ownsRow_nil _ _ _ _, by have := hb1.size; omega, ⟨by simp [Value.ownBlock], by simp [Value.ownBlock]⟩, ⟨hn9, by simp⟩⟩
 have hB_2 := hb1.trans (hb2.mono hb1.size)
 obtain ⟨ta, tc, htv, hrd⟩ := hm_0.read
 have ht := mturn_any (a : Int) (b : Int) (c : Int) w2 hrd HPS.out
 rw [hz] at ht
 have HT := Lib.hid ht
 clear ht hrd htv hz hr1
 go_wp2_with fail
 refine HT.out.mono ?_
 rintro e w3 ⟨rfl, hb3⟩
 have hm_1 := hm_0.below hb3
 have hB_3 := hB_2.trans (hb3.mono hB_2.size)
 clear hm_0
 have k0 := mkTri_is (a : Int) (b : Int) (c : Int) 0 [newT a b c] w3 hm_1 (by simp) rfl rfl
 have K0 := Lib.hid k0; clear k0
 go_wp2_with fail
 refine K0.out.mono ?_
 rintro e w4 ⟨tv1, rfl, hm_2, mu1⟩
 have a1 := addM (S := [newT a b c]) (by intro T hT; simp at hT; subst hT; exact newT_live a b _) (c : Int) (b : Int) (-1)
 have k1 := mkTri_is (c : Int) (b : Int) (-1) 1 [newT a b c, newT c b (-1)] w4 hm_2 (by simp) (by rw [a1.1]; rfl) (by rw [a1.2]; rfl)
 have K1 := Lib.hid k1; clear k1 a1
 go_wp2_with fail
 refine K1.out.mono ?_
 rintro e w5 ⟨tv2, rfl, hm_3, mu2⟩
 have a2 := addM (S := [newT a b c, newT c b (-1)]) (by intro T hT; simp at hT; rcases hT with rfl | rfl <;> exact newT_live _ _ _) (a : Int) (c : Int) (-1)
 have k2 := mkTri_is (a : Int) (c : Int) (-1) 2 [newT a b c, newT c b (-1), newT a c (-1)] w5 hm_3 (by simp) (by rw [a2.1]; rfl) (by rw [a2.2]; rfl)
 have K2 := Lib.hid k2; clear k2 a2
 go_wp2_with fail
 refine K2.out.mono ?_
 rintro e w6 ⟨tv3, rfl, hm_4, mu3⟩
 have a3 := addM (S := [newT a b c, newT c b (-1), newT a c (-1)]) (by intro T hT; simp at hT; rcases hT with rfl | rfl | rfl <;> exact newT_live _ _ _) (b : Int) (a : Int) (-1)
 have k3 := mkTri_is (b : Int) (a : Int) (-1) 3 (newS a b c 0) w6 hm_4 (by simp) (by rw [a3.1]; rfl) (by rw [a3.2]; rfl)
 have K3 := Lib.hid k3; clear k3 a3
 go_wp2_with fail
 refine K3.out.mono ?_
 rintro e w7 ⟨tv4, rfl, hm_5, mu4⟩
 have mu := ((mu1.trans mu2).trans mu3).trans mu4
 have hB_7 : Below w.heap.size w w7 := hB_3.trans (mu.below hB_3.size (by have := hb1.size; omega) (fun k hk => by simp [Value.ownBlock] at hk))
 obtain ⟨w8, hw8, pg_0, hb8, hs8⟩ := new_box w7 _ rfl [.int .i64 1, .int .i64 2, .int .i64 3] 46
 have hm_6 := hm_5.below hb8
 have hB_8 := hB_7.trans (hb8.mono hB_7.size)
 have HM6 := Lib.hid hm_6
 have hg4 : tv4.ownBlock ≠ some w7.heap.size := fun e => by have := (hm_5.row.lt _ e).2; omega
 have hlow := hm_5.low
 have hlow4 := fun k hk => (hm_5.row.lt k hk).1
 obtain ⟨g0, g1, g2, f0, f1, f2⟩ := pg_0.open3
 have HMU := Lib.hid mu; have HB8 := Lib.hid hB_8; have PG := Lib.hid pg_0
 clear hm_1 hm_2 hm_3 hm_4 hm_5 hm_6 mu1 mu2 mu3 mu4 mu hB_7 hB_8 hB_3 hB_2 pg_0
 go_wp2
 clear g0 g1 g2 f0 f1 f2
 go_loopw [13, 14, 49] (fun _ _ iv wr => ∃ i : Nat, i ≤ 3 ∧ iv = .int .i64 i ∧ MeshO 62 49 wr w.heap.size w1.heap.size g c' tv4 P (newS a b c i) ∧ Mut w8 wr w1.heap.size tv4 tv4) (fun _ _ iv _ => 3 - (intOf iv).toNat)
 case atStart => exact ⟨0, by omega, rfl, HM6.out, Mut.refl _ _ _⟩
 case round =>
  obtain ⟨i, hi, rfl, hm, hmu⟩ := hrel
  by_cases hlt : i < 3
  ·have hix : ∀ w : World, (Instr.index 46 (.agg #[.int .i64 1, .int .i64 2, .int .i64 3]) (.int .i64 (i : Int))).run Try.prog w = .ok (.int .i64 ((i + 1 : Nat) : Int)) w := by
    intro w; obtain rfl | rfl | rfl : i = 0 ∨ i = 1 ∨ i = 2 := by omega
    all_goals kernel_rfl
   obtain ⟨T1, t1, t1g⟩ := newS_live (a := a) (b := b) (c := c) i (t := 0) (by omega)
   obtain ⟨T2, t2, t2g⟩ := newS_live (a := a) (b := b) (c := c) i (t := i + 1) (by omega)
   obtain ⟨T3, t3, t3g⟩ := newS_mid (a := a) (b := b) (c := c) i (t := i + 1) (by omega)
   obtain ⟨T4, t4, t4g⟩ := newS_mid (a := a) (b := b) (c := c) i (t := (i + 2) % 3 + 1) (by omega)
   have c1 := Link_any 0 i (i + 1) 2 false T1 T2 wr hm t1 t1g hlt t2 t2g (by omega)
   have c2 := fun w' hm' => Link_any (lo := w.heap.size) (mb := w1.heap.size) (pb := g) (pc := c') (tv := tv4) (P := P) (i + 1) 0 ((i + 2) % 3 + 1) 1 false T3 T4 w' hm' t3 t3g (by omega) t4 t4g (by omega)
   obtain ⟨j, hj⟩ : ∃ j, (i + 2) % 3 = j := ⟨_, rfl⟩
   have hj3 : j < 3 := by omega
   have hstep : newS a b c (i + 1) = linkL (linkL (newS a b c i) 0 i (i + 1) 2 false) (i + 1) 0 ((i + 2) % 3 + 1) 1 false := rfl
   rw [hj] at c2 hstep
   have hmod : ((i : Int) + 2).tmod 3 = (j : Int) := by have := mod_two i 3; rw [hj] at this; exact this
   have hwi : IntKind.i64.wrap ((i : Int) + 2) = (i : Int) + 2 := by rw [IntKind.wrap_i64]; omega
   have hcell : w8.cell? ⟨w7.heap.size, j, none⟩ = some (.int .i64 ((j + 1 : Nat) : Int)) := by
    obtain rfl | rfl | rfl : j = 0 ∨ j = 1 ∨ j = 2 := by omega
    ·exact PG.out.c0
    ·exact PG.out.c1
    ·exact PG.out.c2
   have hjb1 : (0 : Int) ≤ (j : Int) := by omega
   have hjb2 : (j : Int) < 3 := by omega
   have C1 := Lib.hid c1; have C2 := Lib.hid c2; have HST := Lib.hid hstep; have HCE := Lib.hid hcell
   have HM := Lib.hid hmu
   clear c1 c2 hstep t1 t1g t2 t2g t3 t3g t4 t4g hm hmu hj hcell
   have e0 : ((0 : Nat) : Int) = 0 := rfl
   go_wp2_with fail
   refine C1.out.mono ?_
   rintro e w9 ⟨rfl, hm9, mu9⟩
   have hcell9 : w9.cell? ⟨w7.heap.size, j, none⟩ = some (.int .i64 ((j + 1 : Nat) : Int)) := by
    have m := HM.out.trans mu9
    have := (m.keep w7.heap.size (by omega) (by have := hlow.2.1; omega) hg4).1
    rw [World.cell?_of_block (w := w8) (a := ⟨w7.heap.size, j, none⟩) this]; exact HCE.out
   go_wp2_with fail
   refine (C2.out _ hm9).mono ?_
   rintro e w10 ⟨rfl, hm10, mu10⟩
   have HMA := Lib.hid hm10
   clear hm9 hcell9 hm10 e0
   go_wp2
   go_roundw
   case rel => exact ⟨i + 1, by omega, by go_num, by rw [HST.out]; exact HMA.out, (HM.out.trans mu9).trans mu10⟩
   case measure => simp [intOf]; omega
  ·obtain rfl : i = 3 := by omega
   rw [newS_end] at hm
   have HM := Lib.hid hm; have HMM := Lib.hid hmu
   clear hm hmu
   go_wp2
   go_ret2
   exact ⟨_, _, _, _, rfl, HM.out, by omega, HB8.out.trans (HMM.out.below (HB8.out.size) (by omega) hlow4)⟩
end Go.Proofs.Ytecnnpkpgbbfkaa
/- One triangle and its ghosts are sound; pure. -/
namespace Go.Proofs.Ytecnnpkpgbbfkaa
open Go.RowKit Go.MagM
section
variable {P : List (Int × Int)} {a b c : Nat}
theorem newM_get (a b c : Int) (k : Nat) (T : TriM) (h : (newM a b c)[k]? = some T) : (k = 0 ∧ T = ⟨a, b, c, 1, 2, 3, false, false, false⟩) ∨ (k = 1 ∧ T = ⟨c, b, -1, 3, 2, 0, false, false, false⟩) ∨ (k = 2 ∧ T = ⟨a, c, -1, 1, 3, 0, false, false, false⟩) ∨ (k = 3 ∧ T = ⟨b, a, -1, 2, 1, 0, false, false, false⟩) := by
 match k, h with
 | 0, h => simp [newM] at h; exact .inl ⟨rfl, h.symm⟩
 | 1, h => simp [newM] at h; exact .inr (.inl ⟨rfl, h.symm⟩)
 | 2, h => simp [newM] at h; exact .inr (.inr (.inl ⟨rfl, h.symm⟩))
 | 3, h => simp [newM] at h; exact .inr (.inr (.inr ⟨rfl, h.symm⟩))
 | _ + 4, h => simp [newM] at h
theorem newM_links (hab : a ≠ b) (hbc : b ≠ c) (hac : a ≠ c) (k : Nat) (T : TriM) (h : (newM (a : Int) b c)[k]? = some T) : linkedT (newM (a : Int) b c) k T = true := by
 have e1 : ¬ (a : Int) = b := by omega
 have e2 : ¬ (b : Int) = c := by omega
 have e3 : ¬ (a : Int) = c := by omega
 have f1 : ¬ (b : Int) = a := by omega
 have f2 : ¬ (c : Int) = b := by omega
 have f3 : ¬ (c : Int) = a := by omega
 have m1 : ¬ (a : Int) = -1 := by omega
 have m2 : ¬ (b : Int) = -1 := by omega
 have m3 : ¬ (c : Int) = -1 := by omega
 have n1 : ¬ (-1 : Int) = a := by omega
 have n2 : ¬ (-1 : Int) = b := by omega
 have n3 : ¬ (-1 : Int) = c := by omega
 have g1 : ¬ (a : Int) = -2 := by omega
 have g2 : ¬ (b : Int) = -2 := by omega
 have g3 : ¬ (c : Int) = -2 := by omega
 refine linkedT_yes fun i hi => ?_
 rcases newM_get _ _ _ k T h with ⟨rfl, rfl⟩ | ⟨rfl, rfl⟩ | ⟨rfl, rfl⟩ | ⟨rfl, rfl⟩
 all_goals
  obtain rfl | rfl | rfl : i = 0 ∨ i = 1 ∨ i = 2 := by omega
  all_goals simp [linkI, getT, newM, edgeT, edgeV, goneB, TriM.n, TriM.f, e1, e2, e3, f1, f2, f3, m1, m2, m3, n1, n2, n3, g1, g2, g3]
theorem newM_formed (ha : a < P.length) (hb : b < P.length) (hc : c < P.length) (ht : 0 < crs (ptA P a).1 (ptA P a).2 (ptA P b).1 (ptA P b).2 (ptA P c).1 (ptA P c).2) (k : Nat) (T : TriM) (h : (newM (a : Int) b c)[k]? = some T) : formedT P (newM (a : Int) b c) T = true := by
 have m1 : ¬ (-1 : Int) = a := by omega
 have m2 : ¬ (-1 : Int) = b := by omega
 have m3 : ¬ (-1 : Int) = c := by omega
 have g1 : ¬ (a : Int) = -2 := by omega
 have g2 : ¬ (b : Int) = -2 := by omega
 have g3 : ¬ (c : Int) = -2 := by omega
 have ga : getP P (a : Int) = some (ptA P a) := by unfold getP; rw [if_pos (by omega)]; exact ptA_at ha
 have gb : getP P (b : Int) = some (ptA P b) := by unfold getP; rw [if_pos (by omega)]; exact ptA_at hb
 have gc : getP P (c : Int) = some (ptA P c) := by unfold getP; rw [if_pos (by omega)]; exact ptA_at hc
 have hr : realM (newM (a : Int) b c) 0 = true := by
  have p1 : (0 : Int) ≤ a := by omega
  have p2 : (0 : Int) ≤ b := by omega
  have p3 : (0 : Int) ≤ c := by omega
  simp [realM, getT, newM, realT]
 rcases newM_get _ _ _ k T h with ⟨rfl, rfl⟩ | ⟨rfl, rfl⟩ | ⟨rfl, rfl⟩ | ⟨rfl, rfl⟩
 ·have hp : placeT ⟨(a : Int), b, c, 1, 2, 3, false, false, false⟩ (-1) = -1 := by simp [placeT, m1, m2, m3]
  unfold formedT
  rw [if_pos hp]
  have : turnM P (a : Int) b c = 1 := by
   unfold turnM; rw [ga, gb, gc]; exact Int.sign_eq_one_of_pos ht
  simp only [this]; rfl
 all_goals
  unfold formedT
  simp [placeT, m1, m2, m3, hr]
theorem newM_first : firstM (newM (a : Int) b c) (-1) = 1 := by
 have m1 : ¬ (-1 : Int) = a := by omega
 have m2 : ¬ (-1 : Int) = b := by omega
 have m3 : ¬ (-1 : Int) = c := by omega
 have g2 : ¬ (c : Int) = -2 := by omega
 refine firstM_hit (k := 1) (by simp [newM]) ?_ (fun j hj => ?_)
 ·simp [placeM, getT, newM, goneB, placeT, m2, m3, g2]
 ·obtain rfl : j = 0 := by omega
  simp [placeM, getT, newM, placeT, m1, m2, m3]
theorem newM_walk : walkM (newM (a : Int) b c) (-1) 1 4 1 = [(1, 2), (3, 2), (2, 2)] := by
 have m1 : ¬ (-1 : Int) = a := by omega
 have m2 : ¬ (-1 : Int) = b := by omega
 have m3 : ¬ (-1 : Int) = c := by omega
 have g1 : ¬ (a : Int) = -2 := by omega
 have g2 : ¬ (b : Int) = -2 := by omega
 have g3 : ¬ (c : Int) = -2 := by omega
 have p1 : placeM (newM (a : Int) b c) 1 (-1) = 2 := by simp [placeM, getT, newM, goneB, placeT, m2, m3, g3]
 have p2 : placeM (newM (a : Int) b c) 2 (-1) = 2 := by simp [placeM, getT, newM, goneB, placeT, m1, m3, g1]
 have p3 : placeM (newM (a : Int) b c) 3 (-1) = 2 := by simp [placeM, getT, newM, goneB, placeT, m1, m2, g2]
 have s1 : stepM (newM (a : Int) b c) (-1) 1 = 3 := by simp [stepM, getT, newM, placeT, m2, m3, TriM.n]
 have s2 : stepM (newM (a : Int) b c) (-1) 2 = 1 := by simp [stepM, getT, newM, placeT, m1, m3, TriM.n]
 have s3 : stepM (newM (a : Int) b c) (-1) 3 = 2 := by simp [stepM, getT, newM, placeT, m1, m2, TriM.n]
 simp [walkM, p1, p2, p3, s1, s2, s3]
theorem newM_border : borderM (newM (a : Int) b c) = [(a : Int), b, c] := by
 unfold borderM
 rw [newM_first]
 show (rimZ _ (walkM (newM (a : Int) b c) (-1) 1 4 1)).reverse = _
 rw [newM_walk]
 simp [rimZ, vAt, newM, TriM.v]
theorem newM_convex (_ha : a < P.length) (_hb : b < P.length) (_hc : c < P.length) (ht : 0 < crs (ptA P a).1 (ptA P a).2 (ptA P b).1 (ptA P b).2 (ptA P c).1 (ptA P c).2) : convexM P [a, b, c] = true := by
 have c0 : corC P [a, b, c] 0 = ptA P a := by simp [corC, natA]
 have c1 : corC P [a, b, c] 1 = ptA P b := by simp [corC, natA]
 have c2 : corC P [a, b, c] 2 = ptA P c := by simp [corC, natA]
 have c3 : corC P [a, b, c] 3 = ptA P a := by simp [corC, natA]
 have c4 : corC P [a, b, c] 4 = ptA P b := by simp [corC, natA]
 have t1 : 0 < crs (ptA P b).1 (ptA P b).2 (ptA P c).1 (ptA P c).2 (ptA P a).1 (ptA P a).2 := by rw [crs_cyc]; exact ht
 have t2 : 0 < crs (ptA P c).1 (ptA P c).2 (ptA P a).1 (ptA P a).2 (ptA P b).1 (ptA P b).2 := by rw [crs_cyc]; exact t1
 have hy : ¬ ((ptA P a).2 = (ptA P b).2 ∧ (ptA P b).2 = (ptA P c).2) := by
  rintro ⟨e1, e2⟩
  unfold crs at ht
  rw [e1, e2] at ht
  simp at ht
 have hok : okAll P [a, b, c] = true := by
  unfold okAll
  simp only [List.length_cons, List.length_nil, Nat.zero_add, Nat.reduceAdd]
  rw [List.all_eq_true]
  intro k hk
  have := List.mem_range.1 hk
  obtain rfl | rfl | rfl : k = 0 ∨ k = 1 ∨ k = 2 := by omega
  ·rw [c0, c1, c2]; unfold okC; rw [decide_eq_true ht, Bool.true_or]
  ·rw [c1, c2, c3]; unfold okC; rw [decide_eq_true t1, Bool.true_or]
  ·rw [c2, c3, c4]; unfold okC; rw [decide_eq_true t2, Bool.true_or]
 have hcn : cntC P [a, b, c] 3 = 1 := by
  show ((0 + if riseC (corC P [a, b, c] 0) (corC P [a, b, c] 1) (corC P [a, b, c] 2) = true then 1 else 0) + if riseC (corC P [a, b, c] 1) (corC P [a, b, c] 2) (corC P [a, b, c] 3) = true then 1 else 0) + (if riseC (corC P [a, b, c] 2) (corC P [a, b, c] 3) (corC P [a, b, c] 4) = true then 1 else 0) = 1
  rw [c0, c1, c2, c3, c4]
  unfold riseC
  simp only [decide_eq_true_eq]
  generalize (ptA P a).2 = y0 at *
  generalize (ptA P b).2 = y1 at *
  generalize (ptA P c).2 = y2 at *
  split <;> split <;> split <;> omega
 unfold convexM
 rw [hok, show ([a, b, c] : List Nat).length = 3 from rfl, hcn]; rfl
theorem newM_ghosts : ghN (newM (a : Int) b c) (newM (a : Int) b c).length = 3 := by
 have m1 : ¬ (-1 : Int) = a := by omega
 have m2 : ¬ (-1 : Int) = b := by omega
 have m3 : ¬ (-1 : Int) = c := by omega
 have g1 : ¬ (a : Int) = -2 := by omega
 have g2 : ¬ (b : Int) = -2 := by omega
 have g3 : ¬ (c : Int) = -2 := by omega
 have p0 : placeM (newM (a : Int) b c) 0 (-1) = -1 := by simp [placeM, getT, newM, placeT, m1, m2, m3]
 have p1 : placeM (newM (a : Int) b c) 1 (-1) = 2 := by simp [placeM, getT, newM, goneB, placeT, m2, m3, g3]
 have p2 : placeM (newM (a : Int) b c) 2 (-1) = 2 := by simp [placeM, getT, newM, goneB, placeT, m1, m3, g1]
 have p3 : placeM (newM (a : Int) b c) 3 (-1) = 2 := by simp [placeM, getT, newM, goneB, placeT, m1, m2, g2]
 show ghN (newM (a : Int) b c) 4 = 3
 simp [ghN, p0, p1, p2, p3]
theorem newM_sound (ha : a < P.length) (hb : b < P.length) (hc : c < P.length) (ht : 0 < crs (ptA P a).1 (ptA P a).2 (ptA P b).1 (ptA P b).2 (ptA P c).1 (ptA P c).2) : SoundIs P (newM (a : Int) b c) true := by
 have hab : a ≠ b := by rintro rfl; unfold crs at ht; simp at ht
 have hac : a ≠ c := by rintro rfl; unfold crs at ht; simp at ht
 have hbc : b ≠ c := by
  rintro rfl
  have : crs (ptA P a).1 (ptA P a).2 (ptA P b).1 (ptA P b).2 (ptA P b).1 (ptA P b).2 = 0 := by unfold crs; rw [Int.mul_comm]; omega
  omega
 refine .inr ⟨rfl, fun k T hT => ?_, by rw [newM_border]; simp, by rw [newM_border, newM_ghosts]; rfl, [a, b, c], by rw [newM_border]; rfl, ?_, newM_convex ha hb hc ht⟩
 ·unfold okT; rw [newM_formed ha hb hc ht k T hT, newM_links hab hbc hac k T hT]; simp
 ·intro v hv; simp at hv; rcases hv with rfl | rfl | rfl <;> assumption
end
end Go.Proofs.Ytecnnpkpgbbfkaa
/- The triangles of the statements' grids: their edges, their border. Over no program; written ahead of layer 9's code. -/
namespace Go.MagM
/-- The squares of a grid, row by row. -/
def gridSq (w h : Nat) : List (Nat × Nat) := (List.range h).flatMap fun y => (List.range w).map fun x => (x, y)
/-- Both triangles of a square: by one diagonal, or by the other one. -/
def sqT (w : Nat) (p : Nat × Nat) (bit : Bool) : List (Nat × Nat × Nat) :=
 let a := p.2 * (w + 1) + p.1
 let b := p.2 * (w + 1) + (p.1 + 1)
 let c := (p.2 + 1) * (w + 1) + (p.1 + 1)
 let d := (p.2 + 1) * (w + 1) + p.1
 if bit then [(a, b, c), (c, d, a)] else [(b, d, a), (d, b, c)]
def gridT (w h bits : Nat) : List (Nat × Nat × Nat) := ((gridSq w h).zipIdx).flatMap fun q => sqT w q.1 (bits.testBit q.2)
def edgesT (T : List (Nat × Nat × Nat)) : List (Nat × Nat) := T.flatMap fun t => [(t.2.1, t.2.2), (t.2.2, t.1), (t.1, t.2.1)]
/-- Edges that have no other half. -/
def borderT (T : List (Nat × Nat × Nat)) : List (Nat × Nat) := (edgesT T).filter fun e => !(edgesT T).contains (e.2, e.1)
def crossN (w : Nat) (a b c : Nat) : Int :=
 let x := fun v : Nat => ((2 * (v % (w + 1)) : Nat) : Int)
 let y := fun v : Nat => ((2 * (v / (w + 1)) : Nat) : Int)
 (x b - x a) * (y c - y a) - (y b - y a) * (x c - x a)
def goodT (w h : Nat) (T : List (Nat × Nat × Nat)) : Bool :=
 (edgesT T).Nodup && (edgesT T).all (fun e => e.1 != e.2 && e.1 < (w + 1) * (h + 1)) && T.all (fun t => 0 < crossN w t.1 t.2.1 t.2.2) && T.length == 2 * w * h &&
  ((borderT T).map (·.1)).Nodup && ((borderT T).map (·.2)).Nodup && (borderT T).length == 2 * (w + h) && (borderT T).all (fun e => ((borderT T).map (·.2)).contains e.1 && ((borderT T).map (·.1)).contains e.2)
def allGood : Bool := [1, 2].all fun w => [1, 2].all fun h => (List.range 16).all fun bits => goodT w h (gridT w h bits)
set_option maxRecDepth 100000 in
theorem all_good : allGood = true := by decide +kernel
theorem grid_good {w h : Nat} (hw : w = 1 ∨ w = 2) (hh : h = 1 ∨ h = 2) {bits : Nat} (hb : bits < 16) : goodT w h (gridT w h bits) = true := by
 have := all_good
 unfold allGood at this
 rw [List.all_eq_true] at this
 have h1 := this w (by rcases hw with rfl | rfl <;> simp)
 rw [List.all_eq_true] at h1
 have h2 := h1 h (by rcases hh with rfl | rfl <;> simp)
 rw [List.all_eq_true] at h2
 exact h2 bits (List.mem_range.2 hb)
end Go.MagM
/- Triangles and ghosts: all their half-edges are distinct, and each has its other half. Over no program; written ahead of layer 9's code. -/
namespace Go.MagM
theorem nodup_inj {α β : Type} {f : α → β} : ∀ {l : List α}, (l.map f).Nodup → ∀ {x y : α}, x ∈ l → y ∈ l → f x = f y → x = y
 | a :: t, h, x, y, hx, hy, e => by
  have h' := List.nodup_cons.1 h
  rcases List.mem_cons.1 hx with hx | kx
  ·rcases List.mem_cons.1 hy with hy | ky
   ·rw [hx, hy]
   ·exact absurd (List.mem_map.2 ⟨y, ky, by rw [← e, hx]⟩) h'.1
  ·rcases List.mem_cons.1 hy with hy | ky
   ·exact absurd (List.mem_map.2 ⟨x, kx, by rw [e, hy]⟩) h'.1
   ·exact nodup_inj h'.2 kx ky e
/-- The edges of a triangle; its half-edges, its number being s. -/
def edgesV (V : Int × Int × Int) : List (Int × Int) := [(V.2.1, V.2.2), (V.2.2, V.1), (V.1, V.2.1)]
def halfV (s : Nat) (V : Int × Int × Int) : List HalfE := [(s, 0, (V.2.1, V.2.2)), (s, 1, (V.2.2, V.1)), (s, 2, (V.1, V.2.1))]
def halfEs (L : List (Nat × (Int × Int × Int))) : List HalfE := L.flatMap fun p => halfV p.1 p.2
theorem halfEs_edges : ∀ L, (halfEs L).map (fun x => x.2.2) = L.flatMap fun p => edgesV p.2
 | [] => rfl
 | p :: t => by
  have := halfEs_edges t
  unfold halfEs at this ⊢
  rw [List.flatMap_cons, List.map_append, this, List.flatMap_cons]; rfl
theorem mem_halfEs {L : List (Nat × (Int × Int × Int))} {t i : Nat} {e : Int × Int} : (t, i, e) ∈ halfEs L ↔ ∃ V, (t, V) ∈ L ∧ ((i = 0 ∧ e = (V.2.1, V.2.2)) ∨ (i = 1 ∧ e = (V.2.2, V.1)) ∨ (i = 2 ∧ e = (V.1, V.2.1))) := by
 unfold halfEs
 rw [List.mem_flatMap]
 constructor
 ·rintro ⟨⟨s, V⟩, h1, h2⟩
  simp [halfV] at h2
  rcases h2 with ⟨rfl, rfl, rfl⟩ | ⟨rfl, rfl, rfl⟩ | ⟨rfl, rfl, rfl⟩
  ·exact ⟨V, h1, .inl ⟨rfl, rfl⟩⟩
  ·exact ⟨V, h1, .inr (.inl ⟨rfl, rfl⟩)⟩
  ·exact ⟨V, h1, .inr (.inr ⟨rfl, rfl⟩)⟩
 ·rintro ⟨V, h1, h2⟩
  refine ⟨(t, V), h1, ?_⟩
  simp [halfV]
  rcases h2 with ⟨rfl, rfl⟩ | ⟨rfl, rfl⟩ | ⟨rfl, rfl⟩ <;> simp
theorem distinct_of {L : List (Nat × (Int × Int × Int))} (hs : (L.map (·.1)).Nodup) (he : (L.flatMap fun p => edgesV p.2).Nodup) (hn : ∀ e, e ∈ (L.flatMap fun p => edgesV p.2) → e.1 ≠ e.2) : Distinct (halfEs L) := by
 rw [← halfEs_edges] at he hn
 refine ⟨fun t i u j e h1 h2 => ?_, fun t i e e' h1 h2 => ?_, fun t i a b h => ?_⟩
 ·have := nodup_inj he h1 h2 rfl
  simp only [Prod.mk.injEq] at this
  exact ⟨this.1, this.2.1⟩
 ·obtain ⟨V, v1, v2⟩ := mem_halfEs.1 h1
  obtain ⟨U, u1, u2⟩ := mem_halfEs.1 h2
  have := nodup_inj hs v1 u1 rfl
  simp only [Prod.mk.injEq, true_and] at this
  subst this
  rcases v2 with ⟨rfl, rfl⟩ | ⟨rfl, rfl⟩ | ⟨rfl, rfl⟩ <;> rcases u2 with ⟨k, rfl⟩ | ⟨k, rfl⟩ | ⟨k, rfl⟩ <;> first | rfl | omega
 ·exact hn (a, b) (List.mem_map.2 ⟨_, h, rfl⟩)
/-- A triangle of points; a ghost behind an edge of the border. -/
def realV (t : Nat × Nat × Nat) : Int × Int × Int := ((t.1 : Int), (t.2.1 : Int), (t.2.2 : Int))
def ghostV (e : Nat × Nat) : Int × Int × Int := ((e.2 : Int), (e.1 : Int), -1)
def castE (e : Nat × Nat) : Int × Int := ((e.1 : Int), (e.2 : Int))
theorem castE_inj {a b : Nat × Nat} (h : castE a = castE b) : a = b := by
 unfold castE at h
 simp only [Prod.mk.injEq] at h
 exact Prod.ext (by omega) (by omega)
theorem real_edges : ∀ T : List (Nat × Nat × Nat), (T.map realV).flatMap edgesV = (edgesT T).map castE
 | [] => rfl
 | t :: r => by
  have := real_edges r
  unfold edgesT at this ⊢
  rw [List.map_cons, List.flatMap_cons, this, List.flatMap_cons, List.map_append]; rfl
theorem ghost_edges : ∀ Bd : List (Nat × Nat), ∀ e, e ∈ (Bd.map ghostV).flatMap edgesV ↔ ∃ x ∈ Bd, e = ((x.1 : Int), -1) ∨ e = (-1, (x.2 : Int)) ∨ e = ((x.2 : Int), (x.1 : Int)) := by
 intro Bd e
 simp only [List.mem_flatMap, List.mem_map]
 constructor
 ·rintro ⟨V, ⟨x, hx, rfl⟩, h⟩
  simp [edgesV, ghostV] at h
  exact ⟨x, hx, h⟩
 ·rintro ⟨x, hx, h⟩
  exact ⟨ghostV x, ⟨x, hx, rfl⟩, by simp [edgesV, ghostV]; exact h⟩
theorem ghost_nodup : ∀ Bd : List (Nat × Nat), (Bd.map (·.1)).Nodup → (Bd.map (·.2)).Nodup → ((Bd.map ghostV).flatMap edgesV).Nodup
 | [], _, _ => by simp
 | x :: t, h1, h2 => by
  have k1 := List.nodup_cons.1 h1
  have k2 := List.nodup_cons.1 h2
  rw [List.map_cons, List.flatMap_cons, List.nodup_append]
  refine ⟨?_, ghost_nodup t k1.2 k2.2, fun a ha b hb e => ?_⟩
  ·simp [edgesV, ghostV]
  ·subst e
   obtain ⟨y, hy, h⟩ := (ghost_edges t a).1 hb
   have y1 : y.1 ≠ x.1 := fun e => k1.1 (List.mem_map.2 ⟨y, hy, e⟩)
   have y2 : y.2 ≠ x.2 := fun e => k2.1 (List.mem_map.2 ⟨y, hy, e⟩)
   simp [edgesV, ghostV] at ha
   rcases ha with rfl | rfl | rfl <;> rcases h with h | h | h <;> simp only [Prod.mk.injEq] at h <;> omega
/-- What is known of a list of triangles, as a proposition. -/
structure Good (T : List (Nat × Nat × Nat)) : Prop where
 once : (edgesT T).Nodup
 apart : ∀ e, e ∈ edgesT T → e.1 ≠ e.2
 out : ((borderT T).map (·.1)).Nodup
 in_ : ((borderT T).map (·.2)).Nodup
 next : ∀ e, e ∈ borderT T → (∃ x, x ∈ borderT T ∧ x.2 = e.1) ∧ (∃ x, x ∈ borderT T ∧ x.1 = e.2)
theorem Good.of {w h : Nat} {T : List (Nat × Nat × Nat)} (g : goodT w h T = true) : Good T := by
 unfold goodT at g
 simp only [Bool.and_eq_true, decide_eq_true_eq, List.all_eq_true, bne_iff_ne, ne_eq, List.contains_iff_mem, beq_iff_eq] at g
 obtain ⟨⟨⟨⟨⟨⟨⟨g1, g2⟩, _⟩, _⟩, g3⟩, g4⟩, _⟩, g5⟩ := g
 refine ⟨g1, fun e he => (g2 e he).1, g3, g4, fun e he => ?_⟩
 obtain ⟨h1, h2⟩ := g5 e he
 obtain ⟨x, hx, hx2⟩ := List.mem_map.1 h1
 obtain ⟨y, hy, hy2⟩ := List.mem_map.1 h2
 exact ⟨⟨x, hx, hx2⟩, y, hy, hy2⟩
theorem mem_border {T : List (Nat × Nat × Nat)} {e : Nat × Nat} : e ∈ borderT T ↔ e ∈ edgesT T ∧ (e.2, e.1) ∉ edgesT T := by
 unfold borderT
 rw [List.mem_filter]
 simp
/-- All edges of the triangles, and of the ghosts behind the border, whatever the order of these. -/
def allE (T : List (Nat × Nat × Nat)) (Bd : List (Nat × Nat)) : List (Int × Int) := (T.map realV ++ Bd.map ghostV).flatMap edgesV
theorem all_nodup {T : List (Nat × Nat × Nat)} (g : Good T) {Bd : List (Nat × Nat)} (hp : Bd.Perm (borderT T)) : (allE T Bd).Nodup := by
 unfold allE
 rw [List.flatMap_append, real_edges, List.nodup_append]
 refine ⟨?_, ghost_nodup Bd (((hp.map _).nodup_iff).2 g.out) (((hp.map _).nodup_iff).2 g.in_), fun a ha b hb e => ?_⟩
 ·exact List.Pairwise.map castE (fun a b h e => h (castE_inj e)) g.once
 ·subst e
  obtain ⟨x, hx, rfl⟩ := List.mem_map.1 ha
  obtain ⟨y, hy, h⟩ := (ghost_edges Bd _).1 hb
  have hb' := (mem_border.1 (hp.mem_iff.1 hy)).2
  unfold castE at h
  rcases h with h | h | h <;> simp only [Prod.mk.injEq] at h
  ·omega
  ·omega
  ·have : x = (y.2, y.1) := Prod.ext (by have := h.1; simp only []; omega) (by have := h.2; simp only []; omega)
   rw [this] at hx
   exact hb' hx
theorem all_apart {T : List (Nat × Nat × Nat)} (g : Good T) {Bd : List (Nat × Nat)} (hp : Bd.Perm (borderT T)) : ∀ e, e ∈ allE T Bd → e.1 ≠ e.2 := by
 intro e he
 unfold allE at he
 rw [List.flatMap_append, real_edges] at he
 rcases List.mem_append.1 he with he | he
 ·obtain ⟨x, hx, rfl⟩ := List.mem_map.1 he
  have := g.apart x hx
  simp only [castE]; omega
 ·obtain ⟨y, hy, h⟩ := (ghost_edges Bd _).1 he
  have := g.apart y (mem_border.1 (hp.mem_iff.1 hy)).1
  rcases h with rfl | rfl | rfl <;> simp only [] <;> omega
/-- Each edge has its other half. -/
theorem all_closed {T : List (Nat × Nat × Nat)} (g : Good T) {Bd : List (Nat × Nat)} (hp : Bd.Perm (borderT T)) : ∀ a b, (a, b) ∈ allE T Bd → (b, a) ∈ allE T Bd := by
 intro a b h
 unfold allE at h ⊢
 rw [List.flatMap_append, real_edges] at h ⊢
 rw [List.mem_append]
 rcases List.mem_append.1 h with h | h
 ·obtain ⟨x, hx, e⟩ := List.mem_map.1 h
  simp only [castE, Prod.mk.injEq] at e
  obtain ⟨rfl, rfl⟩ := e
  by_cases hr : (x.2, x.1) ∈ edgesT T
  ·exact .inl (List.mem_map.2 ⟨_, hr, rfl⟩)
  ·exact .inr ((ghost_edges Bd _).2 ⟨x, hp.mem_iff.2 (mem_border.2 ⟨hx, hr⟩), .inr (.inr rfl)⟩)
 ·obtain ⟨y, hy, e⟩ := (ghost_edges Bd _).1 h
  have hyb := hp.mem_iff.1 hy
  obtain ⟨⟨u, hu, hu2⟩, v, hv, hv2⟩ := g.next y hyb
  rcases e with e | e | e <;> simp only [Prod.mk.injEq] at e <;> obtain ⟨rfl, rfl⟩ := e
  ·exact .inr ((ghost_edges Bd _).2 ⟨u, hp.mem_iff.2 hu, .inr (.inl (by rw [hu2]))⟩)
  ·exact .inr ((ghost_edges Bd _).2 ⟨v, hp.mem_iff.2 hv, .inl (by rw [hv2])⟩)
  ·exact .inl (List.mem_map.2 ⟨y, (mem_border.1 hyb).1, rfl⟩)
end Go.MagM
/- The statements' Build: join, by half-edges. -/
namespace Go.MagM
open Go.RowKit
def key2 (a b : Int) : Value := .agg #[.int .i64 a, .int .i64 b]
/-- An entry of the map of open edges. -/
def encO (x : (Int × Int) × Nat × Nat) : Value × Value := (key2 x.1.1 x.1.2, .agg #[.int .i64 (x.2.1 : Int), .int .i64 (x.2.2 : Int)])
theorem key2_inj {a b c d : Int} (h : key2 a b = key2 c d) : a = c ∧ b = d := by
 unfold key2 at h
 simp at h
 exact h
section
variable {P : Program}
/-- A map that tells which edges are faults. -/
def FaultMap (P : Program) (k : TypeId) (w : World) (fb : Nat) (F : Int → Int → Bool) : Prop :=
 ∃ m, MapB P k w fb m ∧ (∀ e, e ∈ m → ∃ a b, e = (key2 a b, .int .i64 1) ∧ F a b = true) ∧ (∀ a b, F a b = true → (key2 a b, .int .i64 1) ∈ m)
theorem FaultMap.same {k : TypeId} {w w' : World} {fb : Nat} {F : Int → Int → Bool} (h : FaultMap P k w fb F) (e : w'.heap[fb]? = w.heap[fb]?) : FaultMap P k w' fb F := by
 obtain ⟨m, h1, h2, h3⟩ := h
 exact ⟨m, h1.block e, h2, h3⟩
theorem FaultMap.lt {k : TypeId} {w : World} {fb : Nat} {F : Int → Int → Bool} (h : FaultMap P k w fb F) : fb < w.heap.size := by
 obtain ⟨m, h1, -⟩ := h; exact h1.lt
/-- But for a mesh and one block more w' is as w was. -/
structure Keep3 (w w' : World) (mb : Nat) (tv : Value) (ob : Nat) : Prop where
 os : w'.os = w.os
 tape : w'.tape = w.tape
 output : w'.output = w.output
 size : w.heap.size ≤ w'.heap.size
 keep : ∀ k, k < w.heap.size → k ≠ mb → tv.ownBlock ≠ some k → k ≠ ob → w'.heap[k]? = w.heap[k]?
theorem Keep3.refl (w : World) (mb : Nat) (tv : Value) (ob : Nat) : Keep3 w w mb tv ob := ⟨rfl, rfl, rfl, Nat.le_refl _, fun _ _ _ _ _ => rfl⟩
theorem Keep3.trans {a b c : World} {mb : Nat} {tv : Value} {ob : Nat} (h : Keep3 a b mb tv ob) (k : Keep3 b c mb tv ob) : Keep3 a c mb tv ob :=
 ⟨k.os.trans h.os, k.tape.trans h.tape, k.output.trans h.output, Nat.le_trans h.size k.size, fun i hi h1 h2 h3 => (k.keep i (Nat.lt_of_lt_of_le hi h.size) h1 h2 h3).trans (h.keep i hi h1 h2 h3)⟩
theorem Keep3.of_mut {w w' : World} {mb : Nat} {tv : Value} {ob : Nat} (h : Mut w w' mb tv tv) : Keep3 w w' mb tv ob := ⟨h.os, h.tape, h.output, h.size, fun k hk h1 h2 _ => (h.keep k hk h1 h2).1⟩
theorem Keep3.of_turned {w w' : World} {mb : Nat} {tv : Value} {ob : Nat} (h : Turned w w' ob) : Keep3 w w' mb tv ob := ⟨h.os, h.tape, h.output, by rw [h.size]; exact Nat.le_refl _, fun k _ _ _ h3 => h.block k h3⟩
theorem Keep3.of_below {w w' : World} {mb : Nat} {tv : Value} {ob : Nat} (h : Below w.heap.size w w') : Keep3 w w' mb tv ob := ⟨h.os, h.tape, h.output, h.size, fun k hk _ _ _ => h.block k hk⟩
theorem Keep3.below {w w' : World} {mb B ob : Nat} {tv : Value} (h : Keep3 w w' mb tv ob) (hB : B ≤ w.heap.size) (hm : B ≤ mb) (ho : B ≤ ob) (ht : ∀ k, tv.ownBlock = some k → B ≤ k) : Below B w w' :=
 ⟨h.os, h.tape, h.output, h.size, fun k hk => h.keep k (by omega) (by omega) (fun e => by have := ht k e; omega) (by omega)⟩
/-- A mesh stays where another block is turned. -/
theorem MeshO.turned {p e : TypeId} {w w' : World} {lo mb pb pc : Nat} {tv : Value} {P : List (Int × Int)} {S : List TriM} {ob : Nat} (h : MeshO p e w lo mb pb pc tv P S) (ht : Turned w w' ob) (h1 : mb ≠ ob) (h2 : pb ≠ ob) (h3 : tv.ownBlock ≠ some ob) : MeshO p e w' lo mb pb pc tv P S :=
 ⟨h.box.same (ht.block mb h1), owns_turned h.prow ht (fun e => h2 (by simpa [Value.ownBlock] using e)), owns_turned h.row ht h3, by rw [ht.size]; exact h.low, h.apart, h.short⟩
end
end Go.MagM
namespace Go.Proofs.Ytecnnpkpgbbfkaa
open Go.RowKit Go.MagM Go.Maps
/-- The map of open edges, looked up. -/
theorem open_look {w : World} {ob : Nat} {op : List ((Int × Int) × Nat × Nat)} (h : MapB Try.prog 22 w ob (op.map encO)) {a b : Int} (ha : -1000000 ≤ a ∧ a ≤ 1000000) (hb : -1000000 ≤ b ∧ b ≤ 1000000) :
  (∃ t i, ((a, b), t, i) ∈ op ∧ (Instr.lookup 78 (.map (some ob)) (.agg #[.int .i64 a, .int .i64 b]) true).run Try.prog w = .ok (.tuple #[.agg #[.int .i64 (t : Int), .int .i64 (i : Int)], .bool true]) w) ∨
  ((∀ t i, ((a, b), t, i) ∉ op) ∧ (Instr.lookup 78 (.map (some ob)) (.agg #[.int .i64 a, .int .i64 b]) true).run Try.prog w = .ok (.tuple #[.agg #[.int .i64 0, .int .i64 0], .bool false]) w) := by
 obtain ⟨l, hl⟩ := key2_of ha hb
 rcases h.look keyed2 Try.underlying78 hl (z := .agg #[.int .i64 0, .int .i64 0]) (by kernel_rfl) true with ⟨v, hv, hr⟩ | ⟨hno, hr⟩
 ·obtain ⟨⟨⟨c, d⟩, t, i⟩, hx, e⟩ := List.mem_map.1 hv
  simp only [encO, Prod.mk.injEq] at e
  obtain ⟨e1, rfl⟩ := e
  obtain ⟨rfl, rfl⟩ := key2_inj e1
  exact .inl ⟨t, i, hx, hr⟩
 ·refine .inr ⟨fun t i ht => hno _ (List.mem_map.2 ⟨_, ht, rfl⟩), hr⟩
/-- An open edge comes. -/
theorem open_store {w : World} {ob : Nat} {op : List ((Int × Int) × Nat × Nat)} (h : MapB Try.prog 22 w ob (op.map encO)) {a b : Int} (ha : -1000000 ≤ a ∧ a ≤ 1000000) (hb : -1000000 ≤ b ∧ b ≤ 1000000) (hno : ∀ t i, ((a, b), t, i) ∉ op) (t i : Nat) :
  ∃ w', (Instr.mapUpdate 78 (.map (some ob)) (.agg #[.int .i64 a, .int .i64 b]) (.agg #[.int .i64 (t : Int), .int .i64 (i : Int)])).run Try.prog w = .ok () w' ∧ Turned w w' ob ∧ MapB Try.prog 22 w' ob ((op ++ [((a, b), t, i)]).map encO) := by
 obtain ⟨l, hl⟩ := key2_of ha hb
 obtain ⟨w', m', h1, h2, h3, h4⟩ := h.store keyed2 Try.underlying78 hl (.agg #[.int .i64 (t : Int), .int .i64 (i : Int)])
 refine ⟨w', h1, h2, ?_⟩
 rcases h4 with ⟨-, rfl⟩ | ⟨j, u, hj, -⟩
 ·rw [List.map_append]; exact h3
 ·exfalso
  have hm := List.mem_of_getElem? hj
  obtain ⟨⟨⟨c, d⟩, t', i'⟩, hx, e⟩ := List.mem_map.1 hm
  simp only [encO, Prod.mk.injEq] at e
  obtain ⟨rfl, rfl⟩ := key2_inj e.1
  exact hno _ _ hx
/-- An open edge is closed. -/
theorem open_drop {w : World} {ob : Nat} {op : List ((Int × Int) × Nat × Nat)} (h : MapB Try.prog 22 w ob (op.map encO)) {a b : Int} (ha : -1000000 ≤ a ∧ a ≤ 1000000) (hb : -1000000 ≤ b ∧ b ≤ 1000000) {t i : Nat} (hin : ((a, b), t, i) ∈ op) (ty : TypeId) :
  ∃ (w' : World) (op' : List ((Int × Int) × Nat × Nat)), (Builtin.delete_ #[78, 22] ty #[.map (some ob), .agg #[.int .i64 a, .int .i64 b]]).run Try.prog w = .ok (.tuple #[]) w' ∧ Turned w w' ob ∧ MapB Try.prog 22 w' ob (op'.map encO) ∧ ∀ x, x ∈ op' ↔ x ∈ op ∧ x.1 ≠ (a, b) := by
 obtain ⟨l, hl⟩ := key2_of ha hb
 obtain ⟨w', m', h1, h2, h3, h4⟩ := h.drop keyed2 Try.underlying78 hl ty
 rcases h4 with ⟨hno, -⟩ | ⟨j, u, hj, rfl⟩
 ·exact absurd (List.mem_map.2 ⟨_, hin, rfl⟩) (hno _)
 ·have hjl : j < op.length := by have := (List.getElem?_eq_some_iff.1 hj).1; simpa using this
  have hoj : op[j]? = some op[j] := List.getElem?_eq_getElem hjl
  have hk : (op[j]).1 = (a, b) := by
   rw [List.getElem?_map, hoj] at hj
   simp only [Option.map_some, Option.some.injEq, encO, Prod.mk.injEq] at hj
   obtain ⟨e1, e2⟩ := key2_inj hj.1
   exact Prod.ext e1 e2
  have honce : (op.map (·.1)).Nodup := by
   have := h.once
   rw [List.map_map] at this
   exact List.Pairwise.of_map (S := (· ≠ ·)) (fun p : Int × Int => key2 p.1 p.2) (fun x y hne e => hne (by rw [e])) (by rw [List.map_map]; exact this)
  refine ⟨w', op.eraseIdx j, h1, h2, by rw [ChangeMaps.map_eraseIdx]; exact h3, fun x => ?_⟩
  constructor
  ·intro hx
   obtain ⟨i', e⟩ := List.mem_iff_getElem?.1 hx
   refine ⟨(List.eraseIdx_sublist op j).subset hx, fun e1 => ?_⟩
   rw [List.getElem?_eraseIdx] at e
   have hne : ∀ i'', i'' ≠ j → op[i'']? = some x → False := by
    intro i'' hne hi
    have a1 : (op.map (·.1))[i'']? = some (a, b) := by rw [List.getElem?_map, hi, ← e1]; rfl
    have a2 : (op.map (·.1))[j]? = some (a, b) := by rw [List.getElem?_map, hoj, ← hk]; rfl
    exact hne ((List.getElem?_inj (by have := (List.getElem?_eq_some_iff.1 a1).1; exact this) honce).1 (a1.trans a2.symm))
   split at e
   ·exact hne i' (by omega) e
   ·exact hne (i' + 1) (by omega) e
  ·rintro ⟨hx, hne⟩
   obtain ⟨i', hi⟩ := List.mem_iff_getElem?.1 hx
   have hij : i' ≠ j := by
    rintro rfl
    rw [hoj] at hi; cases hi
    exact hne hk
   rw [List.mem_iff_getElem?]
   rcases Nat.lt_or_ge i' j with g | g
   ·exact ⟨i', by rw [List.getElem?_eraseIdx, if_pos g]; exact hi⟩
   ·exact ⟨i' - 1, by rw [List.getElem?_eraseIdx, if_neg (by omega), show i' - 1 + 1 = i' by omega]; exact hi⟩
/-- Is an edge a fault? -/
theorem fault_look {w : World} {fb : Nat} {F : Int → Int → Bool} (h : FaultMap Try.prog 22 w fb F) {a b : Int} (ha : -1000000 ≤ a ∧ a ≤ 1000000) (hb : -1000000 ≤ b ∧ b ≤ 1000000) :
  (Instr.lookup 64 (.map (some fb)) (.agg #[.int .i64 a, .int .i64 b]) false).run Try.prog w = .ok (.int .i64 (if F a b then 1 else 0)) w := by
 obtain ⟨m, h1, h2, h3⟩ := h
 obtain ⟨l, hl⟩ := key2_of ha hb
 rcases h1.look keyed2 Try.underlying64 hl (z := .int .i64 0) (by kernel_rfl) false with ⟨v, hv, hr⟩ | ⟨hno, hr⟩
 ·obtain ⟨c, d, e, hF⟩ := h2 _ hv
  simp only [Prod.mk.injEq] at e
  obtain ⟨e1, rfl⟩ := e
  obtain ⟨rfl, rfl⟩ := key2_inj e1
  rw [hF]; exact hr
 ·have hF : F a b = false := by
   cases hf : F a b
   ·rfl
   ·exact absurd (h3 a b hf) (hno _)
  rw [hF]; exact hr
end Go.Proofs.Ytecnnpkpgbbfkaa
/- The statements' Build: join. -/
namespace Go.MagM
open Go.RowKit
theorem Distinct.sub {H K : List HalfE} (h : Distinct K) (hs : ∀ x, x ∈ H → x ∈ K) : Distinct H :=
 ⟨fun t i u j e h1 h2 => h.edge t i u j e (hs _ h1) (hs _ h2), fun t i e e' h1 h2 => h.place t i e e' (hs _ h1) (hs _ h2), fun t i a b h1 => h.apart t i a b (hs _ h1)⟩
theorem MeshO.drewN {p e : TypeId} {w : World} {lo mb pb pc : Nat} {tv : Value} {P : List (Int × Int)} {S : List TriM} (h : MeshO p e w lo mb pb pc tv P S) (q : Nat) : MeshO p e (w.drewN q) lo mb pb pc tv P S :=
 ⟨h.box.drewN q, h.prow, h.row, h.low, h.apart, h.short⟩
/-- The points of a triangle to come, by place. -/
def at3 (v0 v1 v2 : Int) : Nat → Int
 | 0 => v0
 | 1 => v1
 | _ => v2
/-- Its first i half-edges, and those that were there. -/
def halfI (H : List HalfE) (t : Nat) (v0 v1 v2 : Int) : Nat → List HalfE
 | 0 => H
 | i + 1 => (t, i, (at3 v0 v1 v2 ((i + 1) % 3), at3 v0 v1 v2 ((i + 2) % 3))) :: halfI H t v0 v1 v2 i
theorem halfI_mem {H : List HalfE} {t : Nat} {v0 v1 v2 : Int} {x : HalfE} : ∀ {i : Nat}, x ∈ halfI H t v0 v1 v2 i → x ∈ H ∨ (x.1 = t ∧ x.2.1 < i)
 | 0, h => .inl h
 | i + 1, h => by
  rcases List.mem_cons.1 h with rfl | h
  ·exact .inr ⟨rfl, Nat.lt_succ_self i⟩
  ·rcases halfI_mem h with h | ⟨h1, h2⟩
   ·exact .inl h
   ·exact .inr ⟨h1, by omega⟩
theorem halfI_sub {H : List HalfE} {t : Nat} {v0 v1 v2 : Int} {i : Nat} {x : HalfE} : ∀ (k : Nat), x ∈ halfI H t v0 v1 v2 i → x ∈ halfI H t v0 v1 v2 (i + k)
 | 0, h => h
 | k + 1, h => List.mem_cons_of_mem _ (halfI_sub k h)
/-- An edge is a fault, between points. -/
def faF (F : Int → Int → Bool) (a b : Int) : Bool := decide (0 ≤ a) && decide (0 ≤ b) && F (if b < a then b else a) (if a < b then b else a)
theorem faF_comm (F : Int → Int → Bool) (a b : Int) : faF F a b = faF F b a := by
 unfold faF
 have e1 : (if b < a then b else a) = (if a < b then a else b) := by split <;> split <;> omega
 have e2 : (if a < b then b else a) = (if b < a then a else b) := by split <;> split <;> omega
 rw [e1, e2, Bool.and_comm (decide (0 ≤ a))]
/-- What join leaves. -/
def JoinEnd (p e k : TypeId) (P0 : Program) (F : Int → Int → Bool) (w : World) (lo mb pb pc : Nat) (tv : Value) (ob : Nat) (P : List (Int × Int)) (S : List TriM) (H' : List HalfE) (w' : World) : Prop :=
 ∃ (S' : List TriM) (op' : List ((Int × Int) × Nat × Nat)), MeshO p e w' lo mb pb pc tv P S' ∧ MapB P0 k w' ob (op'.map encO) ∧ Joined (faF F) H' S' op' ∧ S'.length = S.length ∧ (∀ t', rdV S' t' = rdV S t') ∧ Keep3 w w' mb tv ob
end Go.MagM
namespace Go.Proofs.Ytecnnpkpgbbfkaa
open Go.RowKit Go.MagM
set_option maxRecDepth 100000 in
set_option maxHeartbeats 16000000 in
theorem join_any {lo mb pb pc : Nat} {tv : Value} {P : List (Int × Int)} {S : List TriM} (F : Int → Int → Bool) (H : List HalfE) (op0 : List ((Int × Int) × Nat × Nat)) (t : Nat) (v0 v1 v2 : Int) (Bo Bm Bf ob fb : Nat) (w : World) (h : MeshO 62 49 w lo mb pb pc tv P S)
  (hmap : MapB Try.prog 22 w ob (op0.map encO)) (hf : FaultMap Try.prog 22 w fb F) (xo : Box w Bo [.map (some ob)]) (xm : Box w Bm [.pointer (some ⟨mb, 0, none⟩)]) (xf : Box w Bf [.map (some fb)])
  (so : Bo ≠ mb ∧ tv.ownBlock ≠ some Bo ∧ Bo ≠ ob) (sm : Bm ≠ mb ∧ tv.ownBlock ≠ some Bm ∧ Bm ≠ ob) (sf : Bf ≠ mb ∧ tv.ownBlock ≠ some Bf ∧ Bf ≠ ob) (sfb : fb ≠ mb ∧ tv.ownBlock ≠ some fb ∧ fb ≠ ob) (sob : ob ≠ mb ∧ ob ≠ pb ∧ tv.ownBlock ≠ some ob)
  (hV : rdV S t = some (v0, v1, v2)) (hv0 : 0 ≤ v0) (hs : ∀ i, -1000000 ≤ at3 v0 v1 v2 i ∧ at3 v0 v1 v2 i ≤ 1000000)
  (hlive : ∀ t' i' e, (t', i', e) ∈ H → ∃ x y z, rdV S t' = some (x, y, z) ∧ 0 ≤ x) (hJ : Joined (faF F) H S op0) (hd : Distinct (halfI H t v0 v1 v2 3)) (hnew : ∀ i e, (t, i, e) ∉ H) :
  Calls Try.prog 40 #[.int .i64 (t : Int), .agg #[.int .i64 v0, .int .i64 v1, .int .i64 v2], .pointer (some ⟨Bo, 0, none⟩), .pointer (some ⟨Bm, 0, none⟩), .pointer (some ⟨Bf, 0, none⟩)] w fun e w' => e = .returned (.tuple #[]) ∧ JoinEnd 62 49 22 Try.prog F w lo mb pb pc tv ob P S (halfI H t v0 v1 v2 3) w' := by
 have H0 := Lib.hid h; have HMAP := Lib.hid hmap; have HF := Lib.hid hf; have HXO := Lib.hid xo; have HXM := Lib.hid xm; have HXF := Lib.hid xf
 have SO := Lib.hid so; have SM := Lib.hid sm; have SF := Lib.hid sf; have SFB := Lib.hid sfb; have OB := Lib.hid sob
 have HV := Lib.hid hV; have HSM := Lib.hid hs; have HLV := Lib.hid hlive; have HJ0 := Lib.hid hJ; have HD0 := Lib.hid hd; have HNEW := Lib.hid hnew; have HV0 := Lib.hid hv0
 have low := h.low
 have ltv : ∀ k, tv.ownBlock = some k → k < w.heap.size := fun k hk => (h.row.lt k hk).2
 have lob := hmap.lt
 clear h hmap hf xo xm xf so sm sf sfb sob hV hs hlive hJ hd hnew hv0
 obtain ⟨w1, hw1, pv_0, hb1, hs1⟩ := new_box w _ rfl [.int .i64 v0, .int .i64 v1, .int .i64 v2] 46
 have PV := Lib.hid pv_0
 have HST : Hid (JoinEnd 62 49 22 Try.prog F w lo mb pb pc tv ob P S (halfI H t v0 v1 v2 0) w1) := Lib.hid ⟨S, op0, H0.out.below hb1, HMAP.out.below hb1, HJ0.out, rfl, fun _ => rfl, Keep3.of_below hb1⟩
 clear pv_0
 have hsz : w.heap.size < w1.heap.size := by omega
 have hk1 : Keep3 w w1 mb tv ob := Keep3.of_below hb1
 have HK1 := Lib.hid hk1; have HB1 := Lib.hid hb1
 clear hk1 hb1 hs1
 go_enter Try.func40, Try.ntmps40
 go_wp2
 clear hw1
 go_loopw [7, 8, 9, 10, 11, 12] (fun _ _ _ _ _ iv wr => ∃ i : Nat, i ≤ 3 ∧ iv = .int .i64 i ∧ JoinEnd 62 49 22 Try.prog F w lo mb pb pc tv ob P S (halfI H t v0 v1 v2 i) wr ∧ Keep3 w1 wr mb tv ob) (fun _ _ _ _ _ iv _ => 3 - (intOf iv).toNat)
 case atStart => exact ⟨0, by omega, rfl, HST.out, Keep3.refl _ _ _ _⟩
 case round =>
  obtain ⟨i, hi, rfl, hje, hkk⟩ := hrel
  by_cases hlt : i < 3
  ·obtain ⟨S', op', hm, hmap', hJ', hSl, hSv, hk⟩ := hje
   obtain ⟨j, hj⟩ : ∃ j, (i + 1) % 3 = j := ⟨_, rfl⟩
   have hjn : j < 3 := by omega
   obtain ⟨k, hk'⟩ : ∃ k, (i + 2) % 3 = k := ⟨_, rfl⟩
   have hkn : k < 3 := by omega
   obtain ⟨a, ha⟩ : ∃ a, at3 v0 v1 v2 j = a := ⟨_, rfl⟩
   obtain ⟨b, hb⟩ : ∃ b, at3 v0 v1 v2 k = b := ⟨_, rfl⟩
   have sa := HSM.out j; rw [ha] at sa
   have sb := HSM.out k; rw [hb] at sb
   have hpv := PV.out.same (hkk.keep w.heap.size hsz (by omega) (fun e => by have := ltv _ e; omega) (by omega))
   have hcj : wr.cell? ⟨w.heap.size, j, none⟩ = some (.int .i64 a) := by
    refine hpv.c j _ ?_
    rw [← ha]; clear hj
    obtain rfl | rfl | rfl : j = 0 ∨ j = 1 ∨ j = 2 := by omega
    all_goals rfl
   have hck : wr.cell? ⟨w.heap.size, k, none⟩ = some (.int .i64 b) := by
    refine hpv.c k _ ?_
    rw [← hb]; clear hk'
    obtain rfl | rfl | rfl : k = 0 ∨ k = 1 ∨ k = 2 := by omega
    all_goals rfl
   clear hpv
   have hw1' : IntKind.i64.wrap ((i : Int) + 1) = (i : Int) + 1 := by rw [IntKind.wrap_i64]; omega
   have hw2' : IntKind.i64.wrap ((i : Int) + 2) = (i : Int) + 2 := by rw [IntKind.wrap_i64]; omega
   have hm1 : ((i : Int) + 1).tmod 3 = (j : Int) := by have := mod_one i 3; rw [hj] at this; exact this
   have hm2 : ((i : Int) + 2).tmod 3 = (k : Int) := by have := mod_two i 3; rw [hk'] at this; exact this
   have b1 : (0 : Int) ≤ (j : Int) := by omega
   have b2 : (j : Int) < 3 := by omega
   have b3 : (0 : Int) ≤ (k : Int) := by omega
   have b4 : (k : Int) < 3 := by omega
   have HM := Lib.hid hm; have HMP := Lib.hid hmap'; have HJ := Lib.hid hJ'; have HSL := Lib.hid hSl; have HSV := Lib.hid hSv; have HK := Lib.hid hk; have HKK := Lib.hid hkk
   have HI1 := Lib.hid hj; have HI2 := Lib.hid hk'; have HVA := Lib.hid ha; have HVB := Lib.hid hb
   clear hm hmap' hJ' hSl hSv hk hkk hj hk' ha hb
   have key : ∀ q, ∃ w2, wr.drewN q = w2 ∧ MeshO 62 49 w2 lo mb pb pc tv P S' ∧ MapB Try.prog 22 w2 ob (op'.map encO) ∧ Keep3 w w2 mb tv ob ∧ Keep3 w1 w2 mb tv ob ∧ w2.heap.size = wr.heap.size := fun q =>
    ⟨_, rfl, HM.out.drewN q, HMP.out.block rfl, ⟨HK.out.os, HK.out.tape, HK.out.output, HK.out.size, HK.out.keep⟩, ⟨HKK.out.os, HKK.out.tape, HKK.out.output, HKK.out.size, HKK.out.keep⟩, rfl⟩
   have KEY := Lib.hid key; clear key HM HMP HK HKK
   go_wp2
   go_quiet (fail)
   obtain ⟨w2, hw2, hm2q, hmp2, hk2, hkk2, hsz2⟩ := KEY.out _
   rw [hw2]
   clear hw2 KEY hcj hck
   have HM := Lib.hid hm2q; have HMP := Lib.hid hmp2; have HK := Lib.hid hk2; have HKK := Lib.hid hkk2; have HSZ2 := Lib.hid hsz2
   have hxo2 := hk2.keep Bo (HXO.out.lt) SO.out.1 SO.out.2.1 SO.out.2.2
   have hxm2 := hk2.keep Bm (HXM.out.lt) SM.out.1 SM.out.2.1 SM.out.2.2
   have hxf2 := hk2.keep Bf (HXF.out.lt) SF.out.1 SF.out.2.1 SF.out.2.2
   have hfb2 := hk2.keep fb (HF.out.lt) SFB.out.1 SFB.out.2.1 SFB.out.2.2
   have XO := Lib.hid (HXO.out.same hxo2)
   have XM := Lib.hid (HXM.out.same hxm2)
   have XF := Lib.hid (HXF.out.same hxf2)
   have FM := Lib.hid (HF.out.same hfb2)
   clear hm2q hmp2 hk2 hkk2 hsz2 hxo2 hxm2 hxf2 hfb2
   have co2 := XO.out.c0
   -- what is known of the half-edge to come
   have hsub := Lib.hid (HD0.out.sub (H := halfI H t v0 v1 v2 (i + 1)) (fun x hx => by have := halfI_sub (3 - (i + 1)) hx; rwa [show i + 1 + (3 - (i + 1)) = 3 by omega] at this))
   have heq : halfI H t v0 v1 v2 (i + 1) = (t, i, (a, b)) :: halfI H t v0 v1 v2 i := by rw [halfI, HI1.out, HI2.out, HVA.out, HVB.out]
   have HEQ := Lib.hid heq; clear heq
   have hni : (t, i, (a, b)) ∉ halfI H t v0 v1 v2 i := fun hx => by
    rcases halfI_mem hx with hx | ⟨-, hx⟩
    ·exact HNEW.out _ _ hx
    ·exact Nat.lt_irrefl _ hx
   have HNI := Lib.hid hni; clear hni
   obtain ⟨T1, hT1, hG1⟩ := live_of ((HSV.out t).trans HV.out) HV0.out
   have htl : t < S'.length := (List.getElem?_eq_some_iff.1 hT1).1
   have HT1 := Lib.hid hT1; have HG1 := Lib.hid hG1; have HTL := Lib.hid htl
   clear hT1 hG1 htl
   obtain ⟨w3, hw3, hbx, hb3, hs3⟩ := new_box w2 _ rfl [.int .i64 0, .int .i64 0] 80
   have hlk := open_look HMP.out (a := b) (b := a) sb sa
   rcases hlk with ⟨u, jj, hin, hlk⟩ | ⟨hno, hlk⟩
   ·have HIN := Lib.hid hin; clear hin
    obtain ⟨w4, hw4⟩ : ∃ w4, setAll w3 w2.heap.size 0 [.int .i64 (u : Int), .int .i64 (jj : Int)] = w4 := ⟨_, rfl⟩
    have BX := Lib.hid hbx; have HW4 := Lib.hid hw4
    have hx4 := hbx.setAll [.int .i64 (u : Int), .int .i64 (jj : Int)] rfl
    rw [hw4] at hx4
    have hB4 : Below w2.heap.size w2 w4 := by rw [← hw4]; exact ((hb3.setCell (Nat.le_refl _) _).setCell (Nat.le_refl _) _)
    have d0 := hbx.c0; have d1 := hbx.c1; have d2 := hbx.f 0 _ rfl; have d3 := hbx.f 1 _ rfl
    clear hbx hb3 hs3 hw4
    have hw4' : (w3.setCell ⟨w2.heap.size, 0, none⟩ (.int .i64 (u : Int))).setCell ⟨w2.heap.size, 1, none⟩ (.int .i64 (jj : Int)) = w4 := HW4.out
    have HB4 := Lib.hid hB4; have HX4 := Lib.hid hx4; clear hB4 hx4
    go_wp2_with fail
    try rw [hw4']
    clear hw3 hw4' hlk BX d0 d1 d2 d3 HW4 co2
    have k4 : Keep3 w2 w4.drew mb tv ob := (Keep3.of_below (HB4.out.drew'))
    have K4 := Lib.hid k4; clear k4
    have x5 : Box w4.drew w2.heap.size [.int .i64 (u : Int), .int .i64 (jj : Int)] := HX4.out.drew
    obtain ⟨w5, hw5⟩ : ∃ w5, w4.drew = w5 := ⟨_, rfl⟩
    rw [hw5] at K4 x5
    have HM5 : Hid (MeshO 62 49 w5 lo mb pb pc tv P S') := Lib.hid (by rw [← hw5]; exact (HM.out.below HB4.out).drew)
    have HMP5 : Hid (MapB Try.prog 22 w5 ob (op'.map encO)) := Lib.hid (by rw [← hw5]; exact (HMP.out.below HB4.out).drew)
    have HK5 := Lib.hid (HK.out.trans K4.out); have HKK5 := Lib.hid (HKK.out.trans K4.out)
    have XO5 := Lib.hid (XO.out.same (K4.out.keep Bo XO.out.lt SO.out.1 SO.out.2.1 SO.out.2.2))
    have xm5 := XM.out.same (K4.out.keep Bm XM.out.lt SM.out.1 SM.out.2.1 SM.out.2.2)
    have xf5 := XF.out.same (K4.out.keep Bf XF.out.lt SF.out.1 SF.out.2.1 SF.out.2.2)
    have fm5 := FM.out.same (K4.out.keep fb FM.out.lt SFB.out.1 SFB.out.2.1 SFB.out.2.2)
    have c1 := xm5.c0; have c2 := xf5.c0; have d0 := x5.c0; have d1 := x5.c1
    have hfl := fault_look fm5 (a := if b < a then b else a) (b := if a < b then b else a) (by split <;> omega) (by split <;> omega)
    have hjj := (HJ.out.wait b a u jj).1 HIN.out
    have hj3 : jj < 3 := (HJ.out.small u jj _ hjj.1).2
    have hUU : ∃ U1, S'[u]? = some U1 ∧ goneB U1 = false := by
     rcases halfI_mem hjj.1 with hx | ⟨hx, -⟩
     ·obtain ⟨x, y, z, hx, h0⟩ := HLV.out _ _ _ hx
      exact live_of ((HSV.out u).trans hx) h0
     ·subst hx; exact ⟨T1, HT1.out, HG1.out⟩
    obtain ⟨U1, hU1, hG2⟩ := hUU
    have HU1 := Lib.hid hU1; have HG2 := Lib.hid hG2
    clear hjj hU1 hG2 xm5 xf5 fm5 x5 K4
    by_cases ha0 : 0 ≤ a
    ·have hda : decide (0 ≤ a) = true := decide_eq_true ha0
     by_cases hb0 : 0 ≤ b
     ·have hdb : decide (0 ≤ b) = true := decide_eq_true hb0
      clear ha0 hb0
      obtain ⟨ff, hff⟩ : ∃ ff, F (if b < a then b else a) (if a < b then b else a) = ff := ⟨_, rfl⟩
      have HFA : Hid (faF F a b = ff) := Lib.hid (by unfold faF; rw [hda, hdb]; exact hff)
      rw [hff] at hfl
      clear hff
      cases ff
      ·have hfl : (Instr.lookup 64 (.map (some fb)) (.agg #[.int .i64 (if b < a then b else a), .int .i64 (if a < b then b else a)]) false).run Try.prog w5 = .ok (.int .i64 0) w5 := hfl
       have hfm : (Instr.lookup 64 (.map (some fb)) (.agg #[.int .i64 (min a b), .int .i64 (max a b)]) false).run Try.prog w5 = .ok (.int .i64 0) w5 := by rw [show min a b = (if b < a then b else a) by rw [Int.min_def]; split <;> split <;> omega, show max a b = (if a < b then b else a) by rw [Int.max_def]; split <;> split <;> omega]; exact hfl
       refine wp_region_still_tail 25 (by kernel_rfl) (by kernel_rfl) ?_
       show wpStill _ _ w4.drew (fun a' => wpList _ _ _ _ a' w4.drew) _ _
       rw [hw5]
       simp only [List.take_succ_cons, List.take_zero, List.drop_succ_cons, List.drop_zero]
       iterate 25
        with_reducible refine wpStill_step (fun K hK => ?_)
        go_simp
        with_reducible refine hK _ ?_
        clear hK K
       with_reducible refine wpStill_nil ?_
       try clear hfl
       go_wp2_with fail
       all_goals (
        refine (Link_any t i u jj false T1 U1 w5 HM5.out HT1.out HG1.out hlt HU1.out HG2.out hj3).mono ?_
        rintro e w6 ⟨rfl, hm6, mu6⟩
        have k6 : Keep3 w5 w6 mb tv ob := Keep3.of_mut mu6
        have hmap6 : MapB Try.prog 22 w6 ob (op'.map encO) := HMP5.out.block (mu6.keep ob HMP5.out.lt OB.out.1 OB.out.2.2).1
        obtain ⟨w7, op7, hdr, htu7, hmap7, hop7⟩ := open_drop hmap6 (a := b) (b := a) sb sa HIN.out 0
        have hJ7 := HJ.out.link (faF_comm F) (by have := hsub.out; rw [HEQ.out] at this; exact this) HNI.out HTL.out hlt HIN.out hop7
        have hfa : faF F a b = false := HFA.out
        rw [hfa] at hJ7
        have k7 := (HK5.out.trans k6).trans (Keep3.of_turned htu7)
        have kk7 := (HKK5.out.trans k6).trans (Keep3.of_turned htu7)
        have co6 : w6.cell? ⟨Bo, 0, none⟩ = some (.map (some ob)) := (XO5.out.same (k6.keep Bo XO5.out.lt SO.out.1 SO.out.2.1 SO.out.2.2)).c0
        have HJE : Hid (JoinEnd 62 49 22 Try.prog F w lo mb pb pc tv ob P S (halfI H t v0 v1 v2 (i + 1)) w7 ∧ Keep3 w1 w7 mb tv ob) := Lib.hid ⟨⟨_, op7, hm6.turned htu7 (fun e => OB.out.1 e.symm) (fun e => OB.out.2.1 e.symm) OB.out.2.2, hmap7, (by rw [HEQ.out]; exact hJ7), by rw [linkL_len]; exact HSL.out, fun t' => by rw [linkL_v]; exact HSV.out t', k7⟩, kk7⟩
        clear hm6 mu6 hmap6 htu7 hmap7 hop7 hJ7 hfa k7 kk7 k6
        go_wp2
        exact ⟨⟨i + 1, by omega, by go_num, HJE.out.1, HJE.out.2⟩, by simp [intOf]; omega⟩)
      ·have hfl : (Instr.lookup 64 (.map (some fb)) (.agg #[.int .i64 (if b < a then b else a), .int .i64 (if a < b then b else a)]) false).run Try.prog w5 = .ok (.int .i64 1) w5 := hfl
       have hfm : (Instr.lookup 64 (.map (some fb)) (.agg #[.int .i64 (min a b), .int .i64 (max a b)]) false).run Try.prog w5 = .ok (.int .i64 1) w5 := by rw [show min a b = (if b < a then b else a) by rw [Int.min_def]; split <;> split <;> omega, show max a b = (if a < b then b else a) by rw [Int.max_def]; split <;> split <;> omega]; exact hfl
       refine wp_region_still_tail 25 (by kernel_rfl) (by kernel_rfl) ?_
       show wpStill _ _ w4.drew (fun a' => wpList _ _ _ _ a' w4.drew) _ _
       rw [hw5]
       simp only [List.take_succ_cons, List.take_zero, List.drop_succ_cons, List.drop_zero]
       iterate 25
        with_reducible refine wpStill_step (fun K hK => ?_)
        go_simp
        with_reducible refine hK _ ?_
        clear hK K
       with_reducible refine wpStill_nil ?_
       try clear hfl
       go_wp2_with fail
       all_goals (
        refine (Link_any t i u jj true T1 U1 w5 HM5.out HT1.out HG1.out hlt HU1.out HG2.out hj3).mono ?_
        rintro e w6 ⟨rfl, hm6, mu6⟩
        have k6 : Keep3 w5 w6 mb tv ob := Keep3.of_mut mu6
        have hmap6 : MapB Try.prog 22 w6 ob (op'.map encO) := HMP5.out.block (mu6.keep ob HMP5.out.lt OB.out.1 OB.out.2.2).1
        obtain ⟨w7, op7, hdr, htu7, hmap7, hop7⟩ := open_drop hmap6 (a := b) (b := a) sb sa HIN.out 0
        have hJ7 := HJ.out.link (faF_comm F) (by have := hsub.out; rw [HEQ.out] at this; exact this) HNI.out HTL.out hlt HIN.out hop7
        have hfa : faF F a b = true := HFA.out
        rw [hfa] at hJ7
        have k7 := (HK5.out.trans k6).trans (Keep3.of_turned htu7)
        have kk7 := (HKK5.out.trans k6).trans (Keep3.of_turned htu7)
        have co6 : w6.cell? ⟨Bo, 0, none⟩ = some (.map (some ob)) := (XO5.out.same (k6.keep Bo XO5.out.lt SO.out.1 SO.out.2.1 SO.out.2.2)).c0
        have HJE : Hid (JoinEnd 62 49 22 Try.prog F w lo mb pb pc tv ob P S (halfI H t v0 v1 v2 (i + 1)) w7 ∧ Keep3 w1 w7 mb tv ob) := Lib.hid ⟨⟨_, op7, hm6.turned htu7 (fun e => OB.out.1 e.symm) (fun e => OB.out.2.1 e.symm) OB.out.2.2, hmap7, (by rw [HEQ.out]; exact hJ7), by rw [linkL_len]; exact HSL.out, fun t' => by rw [linkL_v]; exact HSV.out t', k7⟩, kk7⟩
        clear hm6 mu6 hmap6 htu7 hmap7 hop7 hJ7 hfa k7 kk7 k6
        go_wp2
        exact ⟨⟨i + 1, by omega, by go_num, HJE.out.1, HJE.out.2⟩, by simp [intOf]; omega⟩)
     ·have hdb : decide (0 ≤ b) = false := decide_eq_false hb0
      have HFA : Hid (faF F a b = false) := Lib.hid (by unfold faF; rw [hda, hdb]; rfl)
      clear ha0 hb0 hfl
      refine wp_region_still_tail 25 (by kernel_rfl) (by kernel_rfl) ?_
      show wpStill _ _ w4.drew (fun a' => wpList _ _ _ _ a' w4.drew) _ _
      rw [hw5]
      simp only [List.take_succ_cons, List.take_zero, List.drop_succ_cons, List.drop_zero]
      iterate 25
       with_reducible refine wpStill_step (fun K hK => ?_)
       go_simp
       with_reducible refine hK _ ?_
       clear hK K
      with_reducible refine wpStill_nil ?_
      try clear hfl
      go_wp2_with fail
      all_goals (
       refine (Link_any t i u jj false T1 U1 w5 HM5.out HT1.out HG1.out hlt HU1.out HG2.out hj3).mono ?_
       rintro e w6 ⟨rfl, hm6, mu6⟩
       have k6 : Keep3 w5 w6 mb tv ob := Keep3.of_mut mu6
       have hmap6 : MapB Try.prog 22 w6 ob (op'.map encO) := HMP5.out.block (mu6.keep ob HMP5.out.lt OB.out.1 OB.out.2.2).1
       obtain ⟨w7, op7, hdr, htu7, hmap7, hop7⟩ := open_drop hmap6 (a := b) (b := a) sb sa HIN.out 0
       have hJ7 := HJ.out.link (faF_comm F) (by have := hsub.out; rw [HEQ.out] at this; exact this) HNI.out HTL.out hlt HIN.out hop7
       have hfa : faF F a b = false := HFA.out
       rw [hfa] at hJ7
       have k7 := (HK5.out.trans k6).trans (Keep3.of_turned htu7)
       have kk7 := (HKK5.out.trans k6).trans (Keep3.of_turned htu7)
       have co6 : w6.cell? ⟨Bo, 0, none⟩ = some (.map (some ob)) := (XO5.out.same (k6.keep Bo XO5.out.lt SO.out.1 SO.out.2.1 SO.out.2.2)).c0
       have HJE : Hid (JoinEnd 62 49 22 Try.prog F w lo mb pb pc tv ob P S (halfI H t v0 v1 v2 (i + 1)) w7 ∧ Keep3 w1 w7 mb tv ob) := Lib.hid ⟨⟨_, op7, hm6.turned htu7 (fun e => OB.out.1 e.symm) (fun e => OB.out.2.1 e.symm) OB.out.2.2, hmap7, (by rw [HEQ.out]; exact hJ7), by rw [linkL_len]; exact HSL.out, fun t' => by rw [linkL_v]; exact HSV.out t', k7⟩, kk7⟩
       clear hm6 mu6 hmap6 htu7 hmap7 hop7 hJ7 hfa k7 kk7 k6
       go_wp2
       exact ⟨⟨i + 1, by omega, by go_num, HJE.out.1, HJE.out.2⟩, by simp [intOf]; omega⟩)
    ·have hda : decide (0 ≤ a) = false := decide_eq_false ha0
     have HFA : Hid (faF F a b = false) := Lib.hid (by unfold faF; rw [hda]; rfl)
     clear ha0 hfl
     refine wp_region_still_tail 25 (by kernel_rfl) (by kernel_rfl) ?_
     show wpStill _ _ w4.drew (fun a' => wpList _ _ _ _ a' w4.drew) _ _
     rw [hw5]
     simp only [List.take_succ_cons, List.take_zero, List.drop_succ_cons, List.drop_zero]
     iterate 25
      with_reducible refine wpStill_step (fun K hK => ?_)
      go_simp
      with_reducible refine hK _ ?_
      clear hK K
     with_reducible refine wpStill_nil ?_
     try clear hfl
     go_wp2_with fail
     all_goals (
      refine (Link_any t i u jj false T1 U1 w5 HM5.out HT1.out HG1.out hlt HU1.out HG2.out hj3).mono ?_
      rintro e w6 ⟨rfl, hm6, mu6⟩
      have k6 : Keep3 w5 w6 mb tv ob := Keep3.of_mut mu6
      have hmap6 : MapB Try.prog 22 w6 ob (op'.map encO) := HMP5.out.block (mu6.keep ob HMP5.out.lt OB.out.1 OB.out.2.2).1
      obtain ⟨w7, op7, hdr, htu7, hmap7, hop7⟩ := open_drop hmap6 (a := b) (b := a) sb sa HIN.out 0
      have hJ7 := HJ.out.link (faF_comm F) (by have := hsub.out; rw [HEQ.out] at this; exact this) HNI.out HTL.out hlt HIN.out hop7
      have hfa : faF F a b = false := HFA.out
      rw [hfa] at hJ7
      have k7 := (HK5.out.trans k6).trans (Keep3.of_turned htu7)
      have kk7 := (HKK5.out.trans k6).trans (Keep3.of_turned htu7)
      have co6 : w6.cell? ⟨Bo, 0, none⟩ = some (.map (some ob)) := (XO5.out.same (k6.keep Bo XO5.out.lt SO.out.1 SO.out.2.1 SO.out.2.2)).c0
      have HJE : Hid (JoinEnd 62 49 22 Try.prog F w lo mb pb pc tv ob P S (halfI H t v0 v1 v2 (i + 1)) w7 ∧ Keep3 w1 w7 mb tv ob) := Lib.hid ⟨⟨_, op7, hm6.turned htu7 (fun e => OB.out.1 e.symm) (fun e => OB.out.2.1 e.symm) OB.out.2.2, hmap7, (by rw [HEQ.out]; exact hJ7), by rw [linkL_len]; exact HSL.out, fun t' => by rw [linkL_v]; exact HSV.out t', k7⟩, kk7⟩
      clear hm6 mu6 hmap6 htu7 hmap7 hop7 hJ7 hfa k7 kk7 k6
      go_wp2
      exact ⟨⟨i + 1, by omega, by go_num, HJE.out.1, HJE.out.2⟩, by simp [intOf]; omega⟩)
   ·have HNO := Lib.hid hno; clear hno
    obtain ⟨w4, hw4⟩ : ∃ w4, setAll w3 w2.heap.size 0 [.int .i64 0, .int .i64 0] = w4 := ⟨_, rfl⟩
    have HW4 := Lib.hid hw4
    have hB4 : Below w2.heap.size w2 w4 := by rw [← hw4]; exact ((hb3.setCell (Nat.le_refl _) _).setCell (Nat.le_refl _) _)
    have d0 := hbx.c0; have d1 := hbx.c1; have d2 := hbx.f 0 _ rfl; have d3 := hbx.f 1 _ rfl
    have k4 : Keep3 w2 w4 mb tv ob := Keep3.of_below hB4
    have hmp4 : MapB Try.prog 22 w4 ob (op'.map encO) := HMP.out.below hB4
    have hnow : ∀ u j, ((a, b), u, j) ∉ op' := fun u j hx => by
     obtain ⟨hx1, -⟩ := (HJ.out.wait a b u j).1 hx
     have h2 := hsub.out; rw [HEQ.out] at h2
     obtain ⟨rfl, rfl⟩ := h2.edge t i u j (a, b) (List.mem_cons_self ..) (List.mem_cons_of_mem _ hx1)
     exact HNI.out hx1
    obtain ⟨w5, hst, htu5, hmp5⟩ := open_store hmp4 sa sb hnow t i
    have co4 : w4.cell? ⟨Bo, 0, none⟩ = some (.map (some ob)) := (XO.out.same (k4.keep Bo XO.out.lt SO.out.1 SO.out.2.1 SO.out.2.2)).c0
    have hJ5 := HJ.out.wait_one (by have := hsub.out; rw [HEQ.out] at this; exact this) HNI.out HTL.out hlt HNO.out (op' := op' ++ [((a, b), t, i)]) (fun x => by simp)
    have k5 := (HK.out.trans k4).trans (Keep3.of_turned htu5)
    have kk5 := (HKK.out.trans k4).trans (Keep3.of_turned htu5)
    have HJE : Hid (JoinEnd 62 49 22 Try.prog F w lo mb pb pc tv ob P S (halfI H t v0 v1 v2 (i + 1)) w5 ∧ Keep3 w1 w5 mb tv ob) := Lib.hid ⟨⟨S', _, (HM.out.below hB4).turned htu5 (fun e => OB.out.1 e.symm) (fun e => OB.out.2.1 e.symm) OB.out.2.2, hmp5, (by rw [HEQ.out]; exact hJ5), HSL.out, HSV.out, k5⟩, kk5⟩
    have hw4' : (w3.setCell ⟨w2.heap.size, 0, none⟩ (.int .i64 0)).setCell ⟨w2.heap.size, 1, none⟩ (.int .i64 0) = w4 := HW4.out
    clear hbx hb3 hs3 hw4 hB4 k4 hmp4 hnow htu5 hmp5 hJ5 k5 kk5
    go_wp2
    exact ⟨⟨i + 1, by omega, by go_num, HJE.out.1, HJE.out.2⟩, by simp [intOf]; omega⟩
  ·obtain rfl : i = 3 := by omega
   clear hi hlt
   have HJE := Lib.hid hje; clear hje hkk
   go_wp2
   go_end0
   exact ⟨rfl, HJE.out⟩
end Go.Proofs.Ytecnnpkpgbbfkaa
/- What the statements' Build has made so far: triangles one behind the other, in the slots that New left free first. Pure. -/
namespace Go.MagM
/-- All half-edges of these triangles, the last one first. -/
def hRev : List (Int × Int × Int) → List HalfE
 | [] => []
 | v :: r => halfI (hRev r) r.length v.1 v.2.1 v.2.2 3
theorem hRev_mem {x : HalfE} : ∀ {R : List (Int × Int × Int)}, x ∈ hRev R ↔ ∃ v, R.reverse[x.1]? = some v ∧ x ∈ halfV x.1 v
 | [] => by simp [hRev]
 | v :: r => by
  have ih := hRev_mem (x := x) (R := r)
  have e : x ∈ hRev (v :: r) ↔ x ∈ halfV r.length v ∨ x ∈ hRev r := by
   show x ∈ (_, _, _) :: (_, _, _) :: (_, _, _) :: hRev r ↔ x ∈ [_, _, _] ∨ _
   simp only [List.mem_cons, List.not_mem_nil, or_false]
   constructor
   ·rintro (h | h | h | h)
    ·exact .inl (.inr (.inr h))
    ·exact .inl (.inr (.inl h))
    ·exact .inl (.inl h)
    ·exact .inr h
   ·rintro ((h | h | h) | h)
    ·exact .inr (.inr (.inl h))
    ·exact .inr (.inl h)
    ·exact .inl h
    ·exact .inr (.inr (.inr h))
  have hv : ∀ {t : Nat} {u : Int × Int × Int}, x ∈ halfV t u → x.1 = t := by
   intro t u h
   simp only [halfV, List.mem_cons, List.not_mem_nil, or_false] at h
   rcases h with rfl | rfl | rfl <;> rfl
  rw [e, ih]
  constructor
  ·rintro (h | ⟨u, h1, h2⟩)
   ·have := hv h
    refine ⟨v, ?_, by rw [this]; exact h⟩
    rw [this, List.reverse_cons, List.getElem?_append_right (by simp)]; simp
   ·refine ⟨u, ?_, h2⟩
    have hl := (List.getElem?_eq_some_iff.1 h1).1
    rw [List.reverse_cons, List.getElem?_append_left hl]; exact h1
  ·rintro ⟨u, h1, h2⟩
   rw [List.reverse_cons] at h1
   rcases Nat.lt_or_ge x.1 r.reverse.length with hl | hl
   ·rw [List.getElem?_append_left hl] at h1
    exact .inr ⟨u, h1, h2⟩
   ·rw [List.getElem?_append_right hl] at h1
    have hx : x.1 - r.reverse.length = 0 := by
     have := (List.getElem?_eq_some_iff.1 h1).1; simp at this ⊢; omega
    rw [hx] at h1
    simp at h1; subst h1
    have : x.1 = r.length := by simp at hl hx; omega
    rw [this] at h2; exact .inl h2
/-- These triangles lie in the slots, from the first one on; of New's four slots the others are gone. -/
structure BuiltS (S : List TriM) (R : List (Int × Int × Int)) : Prop where
 len : S.length = max 4 R.length
 v : ∀ t x, R.reverse[t]? = some x → rdV S t = some x
 gone : ∀ t, R.length ≤ t → t < 4 → rdV S t = some (-2, -2, -2)
 live : ∀ x, x ∈ R → 0 ≤ x.1
theorem BuiltS.same {S S' : List TriM} {R : List (Int × Int × Int)} (h : BuiltS S R) (hl : S'.length = S.length) (hv : ∀ t, rdV S' t = rdV S t) : BuiltS S' R :=
 ⟨hl.trans h.len, fun t x hx => (hv t).trans (h.v t x hx), fun t h1 h2 => (hv t).trans (h.gone t h1 h2), h.live⟩
theorem gone_of {S : List TriM} {t : Nat} (h : rdV S t = some (-2, -2, -2)) : ∃ T, S[t]? = some T ∧ goneB T = true := by
 obtain ⟨T, h1, h2, h3, h4⟩ := rdV_some h
 exact ⟨T, h1, by unfold goneB; exact decide_eq_true ⟨h2, h3, h4⟩⟩
theorem BuiltS.live_at {S : List TriM} {R : List (Int × Int × Int)} (h : BuiltS S R) {t : Nat} (ht : t < R.length) : ∃ T, S[t]? = some T ∧ goneB T = false := by
 obtain ⟨x, hx⟩ : ∃ x, R.reverse[t]? = some x := ⟨_, List.getElem?_eq_getElem (by simpa using ht)⟩
 have h0 := h.live x (List.mem_reverse.1 (List.mem_of_getElem? hx))
 obtain ⟨a, b, c⟩ := x
 exact live_of (h.v t _ hx) h0
theorem BuiltS.free {S : List TriM} {R : List (Int × Int × Int)} (h : BuiltS S R) : freeK S = if R.length < 4 then some R.length else none := by
 unfold freeK
 have hl := h.len
 split
 ·rename_i hlt
  have e : R.length < S.length := by omega
  obtain ⟨T, hT, hg⟩ := gone_of (h.gone R.length (Nat.le_refl _) hlt)
  rw [List.findIdx?_eq_some_iff_getElem]
  refine ⟨e, ?_, fun j hj => ?_⟩
  ·have := (List.getElem?_eq_some_iff.1 hT).2
   rw [this]; exact hg
  ·obtain ⟨U, hU, hgU⟩ := h.live_at hj
   have := (List.getElem?_eq_some_iff.1 hU).2
   rw [this, hgU]; exact Bool.noConfusion
 ·rename_i hge
  rw [List.findIdx?_eq_none_iff]
  intro T hT
  obtain ⟨j, hj⟩ := List.mem_iff_getElem?.1 hT
  have hjl := (List.getElem?_eq_some_iff.1 hj).1
  obtain ⟨U, hU, hgU⟩ := h.live_at (t := j) (by omega)
  rw [hj] at hU; cases hU; exact hgU
theorem BuiltS.slot {S : List TriM} {R : List (Int × Int × Int)} (h : BuiltS S R) : makeK S = R.length := by
 unfold makeK
 rw [h.free]
 have := h.len
 by_cases hlt : R.length < 4
 ·rw [if_pos hlt]
 ·rw [if_neg hlt]; simp only []; omega
theorem BuiltS.make_at {S : List TriM} {R : List (Int × Int × Int)} (h : BuiltS S R) (a b c : Int) (t : Nat) : (makeM S a b c)[t]? = if t = R.length then some (newT a b c) else S[t]? := by
 unfold makeM
 rw [h.free]
 have := h.len
 by_cases hlt : R.length < 4
 ·rw [if_pos hlt]
  simp only []
  rw [List.getElem?_set]
  by_cases e : R.length = t
  ·rw [if_pos e, if_pos e.symm, if_pos (by omega)]
  ·rw [if_neg e, if_neg (fun x => e x.symm)]
 ·rw [if_neg hlt]
  simp only []
  by_cases e : t = R.length
  ·rw [if_pos e, List.getElem?_append_right (by omega), show t - S.length = 0 by omega]; rfl
  ·rw [if_neg e]
   rcases Nat.lt_or_ge t S.length with g | g
   ·rw [List.getElem?_append_left g]
   ·rw [List.getElem?_append_right g, List.getElem?_eq_none g, List.getElem?_eq_none (by simp; omega)]
theorem BuiltS.make_len {S : List TriM} {R : List (Int × Int × Int)} (h : BuiltS S R) (a b c : Int) : (makeM S a b c).length = max 4 (R.length + 1) := by
 unfold makeM
 rw [h.free]
 have := h.len
 by_cases hlt : R.length < 4
 ·rw [if_pos hlt]; simp only [List.length_set]; omega
 ·rw [if_neg hlt]; simp only [List.length_append, List.length_cons, List.length_nil]; omega
theorem BuiltS.make {S : List TriM} {R : List (Int × Int × Int)} (h : BuiltS S R) (a b c : Int) (h0 : 0 ≤ a) : BuiltS (makeM S a b c) ((a, b, c) :: R) := by
 have hat : ∀ t, rdV (makeM S a b c) t = if t = R.length then some (a, b, c) else rdV S t := fun t => by
  unfold rdV; rw [h.make_at]; split <;> rfl
 refine ⟨by rw [h.make_len]; rfl, fun t x hx => ?_, fun t h1 h2 => ?_, fun x hx => ?_⟩
 ·rw [hat]
  rw [List.reverse_cons] at hx
  rcases Nat.lt_or_ge t R.reverse.length with g | g
  ·rw [List.getElem?_append_left g] at hx
   rw [if_neg (by simp at g; omega)]; exact h.v t x hx
  ·rw [List.getElem?_append_right g] at hx
   have e : t - R.reverse.length = 0 := by have := (List.getElem?_eq_some_iff.1 hx).1; simp at this ⊢; omega
   rw [e] at hx
   simp at hx; subst hx
   rw [if_pos (by simp at g e; omega)]
 ·rw [List.length_cons] at h1
  rw [hat, if_neg (by omega)]; exact h.gone t (by omega) h2
 ·rcases List.mem_cons.1 hx with rfl | hx
  ·exact h0
  ·exact h.live x hx
/-- A triangle more: what was joined stays joined. -/
theorem BuiltS.joined {S : List TriM} {R : List (Int × Int × Int)} (h : BuiltS S R) (a b c : Int) {fa : Int → Int → Bool} {op : List ((Int × Int) × Nat × Nat)} (hJ : Joined fa (hRev R) S op) : Joined fa (hRev R) (makeM S a b c) op := by
 refine hJ.other (by rw [h.make_len, h.len]; omega) fun t i e he => ?_
 obtain ⟨u, hu, -⟩ := hRev_mem.1 he
 have := (List.getElem?_eq_some_iff.1 hu).1
 simp only [List.length_reverse] at this
 rw [h.make_at, if_neg (by omega)]
/-- Nothing of it yet. -/
theorem BuiltS.fresh {S : List TriM} {R : List (Int × Int × Int)} (_ : BuiltS S R) : ∀ i e, (R.length, i, e) ∉ hRev R := fun i e he => by
 obtain ⟨u, hu, -⟩ := hRev_mem.1 he
 have := (List.getElem?_eq_some_iff.1 hu).1
 simp at this
theorem BuiltS.lives {S : List TriM} {R : List (Int × Int × Int)} (h : BuiltS S R) : ∀ t i e, (t, i, e) ∈ hRev R → ∃ x y z, rdV S t = some (x, y, z) ∧ 0 ≤ x := fun t i e he => by
 obtain ⟨⟨x, y, z⟩, hu, -⟩ := hRev_mem.1 he
 exact ⟨x, y, z, h.v t _ hu, h.live _ (List.mem_reverse.1 (List.mem_of_getElem? hu))⟩
theorem builtS_nil : BuiltS [goneTri, goneTri, goneTri, goneTri] [] :=
 ⟨rfl, fun t x hx => by simp at hx, fun t _ h2 => by
  obtain rfl | rfl | rfl | rfl : t = 0 ∨ t = 1 ∨ t = 2 ∨ t = 3 := by omega
  all_goals rfl, fun x hx => by simp at hx⟩
end Go.MagM
/- The statements' Build. -/
namespace Go.MagM
open Go.RowKit
/-- Triples of ints in a row. -/
def TrIn (w : World) (b : Nat) (V : List (Int × Int × Int)) : Prop :=
 ∀ k x y z, V[k]? = some (x, y, z) → w.cell? ⟨b, k * 3, none⟩ = some (.int .i64 x) ∧ w.cell? ⟨b, k * 3 + 1, none⟩ = some (.int .i64 y) ∧ w.cell? ⟨b, k * 3 + 2, none⟩ = some (.int .i64 z)
theorem TrIn.below {w w' : World} {b : Nat} {V : List (Int × Int × Int)} (h : TrIn w b V) (hb : Below w.heap.size w w') : TrIn w' b V := fun k x y z hk => by
 obtain ⟨h1, h2, h3⟩ := h k x y z hk
 exact ⟨(hb.cell (World.block_lt_of_cell? w _ h1)).trans h1, (hb.cell (World.block_lt_of_cell? w _ h2)).trans h2, (hb.cell (World.block_lt_of_cell? w _ h3)).trans h3⟩
/-- Three cells at o. -/
structure Ats3 (w : World) (b o : Nat) (v0 v1 v2 : Value) : Prop where
 c0 : w.cell? ⟨b, o, none⟩ = some v0
 c1 : w.cell? ⟨b, o + 1, none⟩ = some v1
 c2 : w.cell? ⟨b, o + 2, none⟩ = some v2
theorem Ats3.below {w w' : World} {b o : Nat} {v0 v1 v2 : Value} (h : Ats3 w b o v0 v1 v2) (hb : Below w.heap.size w w') : Ats3 w' b o v0 v1 v2 := by
 have hlt := World.block_lt_of_cell? w _ h.c0
 exact ⟨(hb.cell (p := ⟨b, o, none⟩) hlt).trans h.c0, (hb.cell (p := ⟨b, o + 1, none⟩) hlt).trans h.c1, (hb.cell (p := ⟨b, o + 2, none⟩) hlt).trans h.c2⟩
theorem Ats3.drew {w : World} {b o : Nat} {v0 v1 v2 : Value} (h : Ats3 w b o v0 v1 v2) : Ats3 w.drew b o v0 v1 v2 := ⟨h.c0, h.c1, h.c2⟩
/-- Points that lie as cells. -/
structure PtsC (w : World) (sb : Nat) (P : List (Int × Int)) : Prop where
 c : ∀ j u, (ptsCells P)[j]? = some u → w.cell? ⟨sb, 0 + j, none⟩ = some u
theorem PtsC.below {w w' : World} {sb : Nat} {P : List (Int × Int)} (h : PtsC w sb P) (hb : Below w.heap.size w w') : PtsC w' sb P := ⟨fun j u hj => (hb.cell (World.block_lt_of_cell? w _ (h.c j u hj))).trans (h.c j u hj)⟩
theorem PtsC.drew {w : World} {sb : Nat} {P : List (Int × Int)} (h : PtsC w sb P) : PtsC w.drew sb P := ⟨h.c⟩
theorem owns_low {w : World} {base base' : Nat} {e : TypeId} {size : Nat} {v : Value} {n : Nat} {xs : List Value} (h : w.ownsRow base e size v n xs) (hb : base' ≤ base) : w.ownsRow base' e size v n xs := by
 refine ⟨h.1, ?_⟩
 rcases h.2 with hn | ⟨g, cap, cur, h1, h2, h3⟩
 ·exact .inl hn
 ·exact .inr ⟨g, cap, cur, h1, Nat.le_trans hb h2, h3⟩
/-- A mesh and its points lie at B or above. -/
structure MeshUp (p e : TypeId) (w : World) (B mb pb pc : Nat) (tv : Value) (P : List (Int × Int)) (S : List TriM) : Prop where
 mesh : MeshO p e w B mb pb pc tv P S
 pts : B ≤ pb
theorem MeshUp.below {p e : TypeId} {w w' : World} {B mb pb pc : Nat} {tv : Value} {P : List (Int × Int)} {S : List TriM} (h : MeshUp p e w B mb pb pc tv P S) (hb : Below w.heap.size w w') : MeshUp p e w' B mb pb pc tv P S := ⟨h.mesh.below hb, h.pts⟩
theorem MeshUp.drew {p e : TypeId} {w : World} {B mb pb pc : Nat} {tv : Value} {P : List (Int × Int)} {S : List TriM} (h : MeshUp p e w B mb pb pc tv P S) : MeshUp p e w.drew B mb pb pc tv P S := ⟨h.mesh.drew, h.pts⟩
theorem Ats3.farFrom {b o : Nat} {v0 v1 v2 : Value} {g' : Nat} (hne : b ≠ g') : ∀ (xs : List Value) (i : Nat) {w : World}, Ats3 w b o v0 v1 v2 → Ats3 (setAll w g' i xs) b o v0 v1 v2
 | [], _, _, h => h
 | x :: xs, i, w, h => by
  have e : ∀ j, (w.setCell ⟨g', i, none⟩ x).cell? ⟨b, j, none⟩ = w.cell? ⟨b, j, none⟩ := fun j => World.cell?_setCell_other _ _ _ _ (by intro k; injection k with h1; first | exact hne h1 | exact hne h1.symm)
  exact Ats3.farFrom hne xs (i + 1) ⟨(e _).trans h.c0, (e _).trans h.c1, (e _).trans h.c2⟩
theorem Ats3.farAll {w : World} {b o : Nat} {v0 v1 v2 : Value} (h : Ats3 w b o v0 v1 v2) {g' : Nat} (hne : b ≠ g') (xs : List Value) : Ats3 (setAll w g' 0 xs) b o v0 v1 v2 := Ats3.farFrom hne xs 0 h
theorem PtsC.farAll {w : World} {sb : Nat} {P : List (Int × Int)} (h : PtsC w sb P) {g' : Nat} (hne : sb ≠ g') (xs : List Value) : PtsC (setAll w g' 0 xs) sb P :=
 ⟨fun j u hj => (World.cell?_of_block (a := ⟨sb, 0 + j, none⟩) ((turned_setAll (w := w) xs 0 (Turned.refl w g')).block sb hne)).trans (h.c j u hj)⟩
def isRef : Value → Bool
 | .pointer _ => true
 | .map _ => true
 | _ => false
/-- A pointer, a map: such a value lies in no mesh. -/
theorem MeshO.apart_of {p e : TypeId} {w : World} {lo mb pb pc : Nat} {tv : Value} {P : List (Int × Int)} {S : List TriM} (h : MeshO p e w lo mb pb pc tv P S) (hP : 0 < P.length) (hS : 0 < S.length) {g : Nat} {q : Value} (hg : w.cell? ⟨g, 0, none⟩ = some q) (hq : isRef q = true) : g ≠ mb ∧ g ≠ pb ∧ tv.ownBlock ≠ some g := by
 refine ⟨?_, ?_, ?_⟩
 ·rintro rfl
  have := h.box.c0; rw [hg] at this; cases this; exact absurd hq (by simp [isRef])
 ·rintro rfl
  obtain ⟨x, y, hx⟩ : ∃ x y, P[0]? = some (x, y) := ⟨P[0].1, P[0].2, List.getElem?_eq_getElem hP⟩
  have := (h.pts 0 x y hx).1
  simp only [Nat.zero_mul] at this
  rw [hg] at this; cases this; exact absurd hq (by simp [isRef])
 ·intro e1
  obtain ⟨t, ht⟩ : ∃ t, S[0]? = some t := ⟨_, List.getElem?_eq_getElem hS⟩
  obtain ⟨tb, c, rfl⟩ := h.slot ht
  simp only [Value.ownBlock, Option.some.injEq] at e1
  subst e1
  have := (owns_box h.row).c 0 (.int .i64 t.v0) (by have := triCells_get S 0 0 t ht (by omega); rw [show (0 : Nat) * 9 + 0 = 0 from rfl] at this; rw [this]; rfl)
  rw [hg] at this; cases this; exact absurd hq (by simp [isRef])
theorem MeshUp.setAll {p e : TypeId} {w : World} {B mb pb pc : Nat} {tv : Value} {P : List (Int × Int)} {S : List TriM} (h : MeshUp p e w B mb pb pc tv P S) {g : Nat} {q : Option Addr} {vs : List Value} (hb : Box w g (.pointer q :: vs)) (hne : 0 < P.length ∧ 0 < S.length) (xs : List Value) (_ : (Value.pointer q :: vs).length = xs.length) : MeshUp p e (Go.MagM.setAll w g 0 xs) B mb pb pc tv P S := by
 obtain ⟨h1, h2, h3⟩ := h.mesh.apart_of hne.1 hne.2 hb.c0 rfl
 exact ⟨h.mesh.turned (turned_setAll xs 0 (Turned.refl w g)) (fun e => h1 e.symm) (fun e => h2 e.symm) h3, h.pts⟩
/-- New's triangle and its ghosts, so many of them dropped. -/
def dropS (a b c : Int) : Nat → List TriM
 | 0 => newM a b c
 | i + 1 => (dropS a b c i).set i goneTri
theorem dropS_len (a b c : Int) : ∀ i, (dropS a b c i).length = 4
 | 0 => rfl
 | i + 1 => by rw [dropS, List.length_set, dropS_len a b c i]
theorem dropS_at (a b c : Nat) {i : Nat} (hi : i < 4) : ∃ T, (dropS (a : Int) (b : Int) (c : Int) i)[i]? = some T ∧ goneB T = false := by
 obtain rfl | rfl | rfl | rfl : i = 0 ∨ i = 1 ∨ i = 2 ∨ i = 3 := by omega
 all_goals exact ⟨_, rfl, by unfold goneB; exact decide_eq_false (by simp only []; omega)⟩
theorem dropS_all (a b c : Int) : dropS a b c 4 = [goneTri, goneTri, goneTri, goneTri] := rfl
theorem MeshUp.mut {p e : TypeId} {w w' : World} {B mb pb pc : Nat} {tv tv' : Value} {P : List (Int × Int)} {S : List TriM} (h : MeshUp p e w B mb pb pc tv P S) (hm : Mut w w' mb tv tv') (hB : B ≤ w.heap.size) : Below B w w' := hm.below hB h.mesh.low.1 (fun k hk => (h.mesh.row.lt k hk).1)
theorem Box.mut {w w' : World} {mb : Nat} {tv tv' : Value} {g : Nat} {vs : List Value} (h : Box w g vs) (hm : Mut w w' mb tv tv') (hl : g < w.heap.size) (h1 : g ≠ mb) (h2 : tv.ownBlock ≠ some g) : Box w' g vs := h.same (hm.keep g hl h1 h2).1
/-- What Build leaves. -/
def BuildEnd (p e : TypeId) (F : Int → Int → Bool) (B : Nat) (P : List (Int × Int)) (T : List (Nat × Nat × Nat)) (mb : Nat) (w' : World) : Prop :=
 ∃ (pb pc : Nat) (tv : Value) (S : List TriM) (Bd : List (Nat × Nat)), MeshO p e w' B mb pb pc tv P S ∧ B ≤ pb ∧ Bd.Perm (borderT T) ∧ BuiltS S ((Bd.map ghostV).reverse ++ (T.map realV).reverse) ∧ Joined (faF F) (hRev ((Bd.map ghostV).reverse ++ (T.map realV).reverse)) S []
end Go.MagM
namespace Go.Proofs.Ytecnnpkpgbbfkaa
open Go.RowKit Go.MagM
/-- New, from a block on. -/
theorem New_up (B sb n sc : Nat) (P : List (Int × Int)) (w : World) (hB : B ≤ w.heap.size) (hn : P.length = n) (h0 : 0 < n) (hn9 : n ≤ 1000000) (hP : InPs P) (hc : PtsC w sb P) (a b c : Nat) (hz : turnM P (a : Int) (b : Int) (c : Int) = 1) :
  Calls Try.prog 16 #[.slice (some ⟨sb, 0, none⟩) n sc, .int .i64 (a : Int), .int .i64 (b : Int), .int .i64 (c : Int)] w fun e w' => ∃ mb pb pc tv, e = .returned (.tuple #[.pointer (some ⟨mb, 0, none⟩), .bool true]) ∧ MeshUp 62 49 w' B mb pb pc tv P (newM (a : Int) (b : Int) (c : Int)) ∧ Below w.heap.size w w' := by
 refine (New_yes (some ⟨sb, 0, none⟩) sb n sc P w hn h0 hn9 hP rfl hc.c a b c hz).mono ?_
 rintro e w' ⟨mb, pb, pc, tv, rfl, hm, hpb, hb⟩
 exact ⟨mb, pb, pc, tv, rfl, ⟨⟨hm.box, owns_low hm.prow hB, owns_low hm.row hB, ⟨Nat.le_trans hB hm.low.1, hm.low.2⟩, hm.apart, hm.short⟩, Nat.le_trans hB hpb⟩, hb⟩
end Go.Proofs.Ytecnnpkpgbbfkaa
/- What the statements' Build keeps while it joins one triangle behind the other. -/
namespace Go.MagM
open Go.RowKit
theorem distinct_list {W : List (Int × Int × Int)} (hn : (W.flatMap edgesV).Nodup) (ha : ∀ e, e ∈ W.flatMap edgesV → e.1 ≠ e.2) : Distinct (hRev W.reverse) := by
 have e1 : ((W.zipIdx.map fun p => (p.2, p.1)).flatMap fun p : Nat × (Int × Int × Int) => edgesV p.2) = W.flatMap edgesV := by
  rw [List.flatMap_map]
  show (W.zipIdx.flatMap fun p => edgesV p.1) = _
  rw [← List.flatMap_map (f := Prod.fst) (g := edgesV), List.zipIdx_map_fst]
 refine (distinct_of (L := W.zipIdx.map fun p => (p.2, p.1)) ?_ (by rw [e1]; exact hn) (by rw [e1]; exact ha)).sub fun x hx => ?_
 ·rw [List.map_map]
  show (W.zipIdx.map Prod.snd).Nodup
  rw [List.zipIdx_map_snd]; exact List.nodup_range'
 ·obtain ⟨v, h1, h2⟩ := hRev_mem.1 hx
  rw [List.reverse_reverse] at h1
  unfold halfEs
  rw [List.mem_flatMap]
  refine ⟨(x.1, v), List.mem_map.2 ⟨(v, x.1), ?_, rfl⟩, h2⟩
  rw [List.mem_zipIdx_iff_getElem?]; exact h1
theorem distinct_take {W : List (Int × Int × Int)} (h : Distinct (hRev W.reverse)) (k : Nat) : Distinct (hRev (W.take k).reverse) := by
 refine h.sub fun x hx => ?_
 obtain ⟨v, h1, h2⟩ := hRev_mem.1 hx
 rw [List.reverse_reverse] at h1
 refine hRev_mem.2 ⟨v, ?_, h2⟩
 rw [List.reverse_reverse]
 rw [List.getElem?_take] at h1
 split at h1
 ·exact h1
 ·cases h1
/-- A map lies in no mesh. -/
theorem MeshO.apart_map {P0 : Program} {k p e : TypeId} {w : World} {lo mb pb pc : Nat} {tv : Value} {P : List (Int × Int)} {S : List TriM} (h : MeshO p e w lo mb pb pc tv P S) (hP : 0 < P.length) (hS : 0 < S.length) {ob : Nat} {m : List (Value × Value)} (hm : MapB P0 k w ob m) : ob ≠ mb ∧ ob ≠ pb ∧ tv.ownBlock ≠ some ob := by
 have hno : ∀ j, w.cell? ⟨ob, j, none⟩ = none := fun j => by
  obtain ⟨es, clock, h1, -⟩ := hm.at_
  simp [World.cell?, h1]
 refine ⟨?_, ?_, ?_⟩
 ·rintro rfl
  have := h.box.c0; rw [hno] at this; cases this
 ·rintro rfl
  obtain ⟨x, y, hx⟩ : ∃ x y, P[0]? = some (x, y) := ⟨P[0].1, P[0].2, List.getElem?_eq_getElem hP⟩
  have := (h.pts 0 x y hx).1
  rw [hno] at this; cases this
 ·intro e1
  obtain ⟨t, ht⟩ : ∃ t, S[0]? = some t := ⟨_, List.getElem?_eq_getElem hS⟩
  obtain ⟨tb, c, rfl⟩ := h.slot ht
  simp only [Value.ownBlock, Option.some.injEq] at e1
  subst e1
  have := (owns_box h.row).c 0 (.int .i64 t.v0) (by have := triCells_get S 0 0 t ht (by omega); rw [show (0 : Nat) * 9 + 0 = 0 from rfl] at this; rw [this]; rfl)
  rw [hno] at this; cases this
theorem MapB.ne_box {P0 : Program} {k : TypeId} {w : World} {ob g : Nat} {m : List (Value × Value)} {v : Value} {vs : List Value} (hm : MapB P0 k w ob m) (hb : Box w g (v :: vs)) : g ≠ ob := by
 rintro rfl
 obtain ⟨es, clock, h1, -⟩ := hm.at_
 have := hb.c0
 simp [World.cell?, h1] at this
/-- Build's state: so many triangles are made and joined. -/
structure BI (P0 : Program) (p e k : TypeId) (fa : Int → Int → Bool) (w : World) (B mb pb pc ob Bo Bm Bf fb : Nat) (P : List (Int × Int)) (R : List (Int × Int × Int)) (tv : Value) (S : List TriM) (op : List ((Int × Int) × Nat × Nat)) : Prop where
 up : MeshUp p e w B mb pb pc tv P S
 map : MapB P0 k w ob (op.map encO)
 built : BuiltS S R
 joined : Joined fa (hRev R) S op
 bo : Box w Bo [.map (some ob)]
 bm : Box w Bm [.pointer (some ⟨mb, 0, none⟩)]
 bf : Box w Bf [.map (some fb)]
 big : B ≤ ob
section
variable {P0 : Program} {p e k : TypeId} {fa : Int → Int → Bool} {w : World} {B mb pb pc ob Bo Bm Bf fb : Nat} {P : List (Int × Int)} {R : List (Int × Int × Int)} {tv : Value} {S : List TriM} {op : List ((Int × Int) × Nat × Nat)}
theorem BI.pos (h : BI P0 p e k fa w B mb pb pc ob Bo Bm Bf fb P R tv S op) : 0 < S.length := by have := h.built.len; omega
theorem BI.below {w' : World} (h : BI P0 p e k fa w B mb pb pc ob Bo Bm Bf fb P R tv S op) (hb : Below w.heap.size w w') : BI P0 p e k fa w' B mb pb pc ob Bo Bm Bf fb P R tv S op :=
 ⟨h.up.below hb, h.map.below hb, h.built, h.joined, h.bo.below hb, h.bm.below hb, h.bf.below hb, h.big⟩
theorem BI.drew (h : BI P0 p e k fa w B mb pb pc ob Bo Bm Bf fb P R tv S op) : BI P0 p e k fa w.drew B mb pb pc ob Bo Bm Bf fb P R tv S op :=
 ⟨h.up.drew, h.map.drew, h.built, h.joined, h.bo.drew, h.bm.drew, h.bf.drew, h.big⟩
/-- A triangle more is made: what join asks for. -/
theorem BI.made (h : BI P0 p e k fa w B mb pb pc ob Bo Bm Bf fb P R tv S op) (hP : 0 < P.length) {w5 : World} {tv1 : Value} {x y z : Int} (hx : 0 ≤ x) (hm : MeshO p e w5 B mb pb pc tv1 P (makeM S x y z)) (mu : Mut w w5 mb tv tv1) :
  MapB P0 k w5 ob (op.map encO) ∧ Box w5 Bo [.map (some ob)] ∧ Box w5 Bm [.pointer (some ⟨mb, 0, none⟩)] ∧ Box w5 Bf [.map (some fb)] ∧
  (Bo ≠ mb ∧ tv1.ownBlock ≠ some Bo ∧ Bo ≠ ob) ∧ (Bm ≠ mb ∧ tv1.ownBlock ≠ some Bm ∧ Bm ≠ ob) ∧ (Bf ≠ mb ∧ tv1.ownBlock ≠ some Bf ∧ Bf ≠ ob) ∧ (ob ≠ mb ∧ ob ≠ pb ∧ tv1.ownBlock ≠ some ob) ∧
  BuiltS (makeM S x y z) ((x, y, z) :: R) ∧ Joined fa (hRev R) (makeM S x y z) op := by
 have hS := h.pos
 have hS1 : 0 < (makeM S x y z).length := by rw [h.built.make_len]; omega
 obtain ⟨o1, o2, o3⟩ := h.up.mesh.apart_map hP hS h.map
 obtain ⟨a1, a2, a3⟩ := h.up.mesh.apart_of hP hS h.bo.c0 rfl
 obtain ⟨b1, b2, b3⟩ := h.up.mesh.apart_of hP hS h.bm.c0 rfl
 obtain ⟨c1, c2, c3⟩ := h.up.mesh.apart_of hP hS h.bf.c0 rfl
 have hm5 := h.map.block (mu.keep ob h.map.lt o1 o3).1
 have xo := Box.mut h.bo mu h.bo.lt a1 a3
 have xm := Box.mut h.bm mu h.bm.lt b1 b3
 have xf := Box.mut h.bf mu h.bf.lt c1 c3
 obtain ⟨a4, a5, a6⟩ := hm.apart_of hP hS1 xo.c0 rfl
 obtain ⟨b4, b5, b6⟩ := hm.apart_of hP hS1 xm.c0 rfl
 obtain ⟨c4, c5, c6⟩ := hm.apart_of hP hS1 xf.c0 rfl
 exact ⟨hm5, xo, xm, xf, ⟨a4, a6, hm5.ne_box xo⟩, ⟨b4, b6, hm5.ne_box xm⟩, ⟨c4, c6, hm5.ne_box xf⟩, hm.apart_map hP hS1 hm5, h.built.make x y z hx, h.built.joined x y z h.joined⟩
/-- .. and joined. -/
theorem BI.next {F : Int → Int → Bool} (h : BI P0 p e k (faF F) w B mb pb pc ob Bo Bm Bf fb P R tv S op) (hP : 0 < P.length) {w5 w6 : World} {tv1 : Value} {x y z : Int} (hx : 0 ≤ x) (hm : MeshO p e w5 B mb pb pc tv1 P (makeM S x y z)) (mu : Mut w w5 mb tv tv1)
  (hj : JoinEnd p e k P0 F w5 B mb pb pc tv1 ob P (makeM S x y z) (halfI (hRev R) R.length x y z 3) w6) (hB : B ≤ w.heap.size) :
  (∃ S' op', BI P0 p e k (faF F) w6 B mb pb pc ob Bo Bm Bf fb P ((x, y, z) :: R) tv1 S' op') ∧ Below B w w6 := by
 obtain ⟨-, xo, xm, xf, so, sm, sf, sob, hb, -⟩ := h.made hP hx hm mu
 obtain ⟨S', op', m6, map6, j6, l6, v6, k6⟩ := hj
 have hlow := mu.size
 have keep : ∀ {g : Nat} {vs : List Value}, Box w5 g vs → g < w5.heap.size → (g ≠ mb ∧ tv1.ownBlock ≠ some g ∧ g ≠ ob) → Box w6 g vs := fun hg hl hs => hg.same (k6.keep _ hl hs.1 hs.2.1 hs.2.2)
 refine ⟨⟨S', op', ⟨m6, h.up.pts⟩, map6, hb.same l6 v6, j6, keep xo xo.lt so, keep xm xm.lt sm, keep xf xf.lt sf, h.big⟩, ?_⟩
 have b1 : Below B w w5 := h.up.mut mu hB
 exact b1.trans (k6.below (by omega) hm.low.1 h.big (fun g hg => (hm.row.lt g hg).1))
end
end Go.MagM
/- What waits when all triangles have come: the border. Pure. -/
namespace Go.MagM
open Go.RowKit
def unE (e : Int × Int) : Nat × Nat := (e.1.toNat, e.2.toNat)
theorem edge_hRev {W : List (Int × Int × Int)} {e : Int × Int} : (∃ t i, (t, i, e) ∈ hRev W.reverse) ↔ e ∈ W.flatMap edgesV := by
 constructor
 ·rintro ⟨t, i, h⟩
  obtain ⟨v, h1, h2⟩ := hRev_mem.1 h
  rw [List.reverse_reverse] at h1
  refine List.mem_flatMap.2 ⟨v, List.mem_of_getElem? h1, ?_⟩
  simp only [halfV, List.mem_cons, List.not_mem_nil, or_false, Prod.mk.injEq] at h2
  rcases h2 with ⟨-, -, rfl⟩ | ⟨-, -, rfl⟩ | ⟨-, -, rfl⟩ <;> simp [edgesV]
 ·intro h
  obtain ⟨v, h1, h2⟩ := List.mem_flatMap.1 h
  obtain ⟨t, ht⟩ := List.mem_iff_getElem?.1 h1
  simp only [edgesV, List.mem_cons, List.not_mem_nil, or_false] at h2
  have mk : ∀ i, (t, i, e) ∈ halfV t v → ∃ t i, (t, i, e) ∈ hRev W.reverse := fun i hi => ⟨t, i, hRev_mem.2 ⟨v, by rw [List.reverse_reverse]; exact ht, hi⟩⟩
  rcases h2 with rfl | rfl | rfl
  ·exact mk 0 (by simp [halfV])
  ·exact mk 1 (by simp [halfV])
  ·exact mk 2 (by simp [halfV])
theorem open_mem {fa : Int → Int → Bool} {T : List (Nat × Nat × Nat)} {S : List TriM} {op : List ((Int × Int) × Nat × Nat)} (hJ : Joined fa (hRev (T.map realV).reverse) S op) {e : Int × Int} : e ∈ op.map (·.1) ↔ ∃ x, x ∈ borderT T ∧ e = castE x := by
 have hE : ∀ e : Int × Int, (∃ t i, (t, i, e) ∈ hRev (T.map realV).reverse) ↔ ∃ x, x ∈ edgesT T ∧ castE x = e := fun e => by
  rw [edge_hRev, real_edges, List.mem_map]
 constructor
 ·intro h
  obtain ⟨⟨⟨a, b⟩, t, i⟩, hx, rfl⟩ := List.mem_map.1 h
  obtain ⟨h1, h2⟩ := (hJ.wait a b t i).1 hx
  obtain ⟨x, hx1, hx2⟩ := (hE (a, b)).1 ⟨t, i, h1⟩
  refine ⟨x, mem_border.2 ⟨hx1, fun hr => ?_⟩, hx2.symm⟩
  obtain ⟨u, j, hu⟩ := (hE (castE (x.2, x.1))).2 ⟨_, hr, rfl⟩
  have hx2' : (x.1 : Int) = a ∧ (x.2 : Int) = b := by simpa [castE] using hx2
  have : castE (x.2, x.1) = (b, a) := by simp only [castE]; rw [hx2'.1, hx2'.2]
  rw [this] at hu
  exact h2 u j hu
 ·rintro ⟨x, hx, rfl⟩
  obtain ⟨h1, h2⟩ := mem_border.1 hx
  obtain ⟨t, i, ht⟩ := (hE (castE x)).2 ⟨_, h1, rfl⟩
  refine List.mem_map.2 ⟨(castE x, t, i), (hJ.wait _ _ t i).2 ⟨ht, fun u j hu => h2 ?_⟩, rfl⟩
  obtain ⟨y, hy, e⟩ := (hE (((x.2 : Int)), ((x.1 : Int)))).1 ⟨u, j, hu⟩
  have : y = (x.2, x.1) := castE_inj (e.trans rfl)
  rw [← this]; exact hy
theorem nodup_of_map {α β : Type} {f : α → β} {l : List α} (h : (l.map f).Nodup) : l.Nodup := List.Pairwise.of_map f (fun _ _ hne e => hne (e ▸ rfl)) h
theorem keys_nodup {op : List ((Int × Int) × Nat × Nat)} (h : ((op.map encO).map (·.1)).Nodup) : (op.map (·.1)).Nodup := by
 have e : (op.map encO).map (·.1) = (op.map (·.1)).map (fun e => key2 e.1 e.2) := by rw [List.map_map, List.map_map]; rfl
 rw [e] at h; exact nodup_of_map h
theorem border_nodup {T : List (Nat × Nat × Nat)} (g : Good T) : (borderT T).Nodup := nodup_of_map g.out
/-- The keys that wait are the border's edges, each once. -/
theorem open_perm {fa : Int → Int → Bool} {T : List (Nat × Nat × Nat)} (g : Good T) {S : List TriM} {op : List ((Int × Int) × Nat × Nat)} (hJ : Joined fa (hRev (T.map realV).reverse) S op) (hn : (op.map (·.1)).Nodup) : (op.map (·.1)).Perm ((borderT T).map castE) := by
 refine (List.perm_ext_iff_of_nodup hn ?_).2 fun e => ?_
 ·exact List.Pairwise.map castE (fun a b h e => h (castE_inj e)) (border_nodup g)
 ·rw [open_mem hJ, List.mem_map]
  exact ⟨fun ⟨x, h1, h2⟩ => ⟨x, h1, h2.symm⟩, fun ⟨x, h1, h2⟩ => ⟨x, h1, h2.symm⟩⟩
theorem perm_cast {A B : List (Nat × Nat)} (h : (A.map castE).Perm (B.map castE)) : A.Perm B := by
 have := h.map unE
 rw [List.map_map, List.map_map] at this
 have e : ∀ L : List (Nat × Nat), L.map (unE ∘ castE) = L := fun L => by
  conv => rhs; rw [← List.map_id L]
  rfl
 rwa [e, e] at this
/-- Edges in a row, two cells each. -/
def edgCells : List (Nat × Nat) → List Value
 | [] => []
 | e :: t => .int .i64 (e.1 : Int) :: .int .i64 (e.2 : Int) :: edgCells t
theorem edgCells_app : ∀ l k, edgCells (l ++ k) = edgCells l ++ edgCells k
 | [], _ => rfl
 | e :: t, k => by simp [edgCells, edgCells_app t k]
theorem edgCells_get : ∀ (l : List (Nat × Nat)) (i : Nat) (e : Nat × Nat), l[i]? = some e → (edgCells l)[i * 2]? = some (.int .i64 (e.1 : Int)) ∧ (edgCells l)[i * 2 + 1]? = some (.int .i64 (e.2 : Int))
 | [], _, _, h => by simp at h
 | x :: t, 0, e, h => by simp at h; subst h; exact ⟨rfl, rfl⟩
 | x :: t, i + 1, e, h => by
  have := edgCells_get t i e (by simpa using h)
  rw [show (i + 1) * 2 = i * 2 + 1 + 1 by omega]
  simpa [edgCells] using this
def lenV : Value → Nat
 | .slice _ n _ => n
 | _ => 0
theorem RowN.lenV {w : World} {base : Nat} {e : TypeId} {size n : Nat} {v : Value} {xs : List Value} (h : RowN w base e size v n xs) : lenV v = n := by
 rcases h.2 with ⟨rfl, rfl⟩ | ⟨g, cap, cur, rfl, _⟩ <;> rfl
theorem perm_eraseIdx {α : Type} : ∀ (l : List α) (i : Nat) (x : α), l[i]? = some x → l.Perm (x :: l.eraseIdx i)
 | [], _, _, h => by simp at h
 | y :: t, 0, x, h => by simp at h; subst h; exact List.Perm.refl _
 | y :: t, i + 1, x, h => by
  have := perm_eraseIdx t i x (by simpa using h)
  rw [List.eraseIdx_cons_succ]
  exact (this.cons y).trans (List.Perm.swap x y _)
/-- What has come of the open edges, and what is left. -/
structure LeftO (op : List ((Int × Int) × Nat × Nat)) (E : List (Nat × Nat)) (rest : List (Value × Value)) : Prop where
 at_ : ∃ rop : List ((Int × Int) × Nat × Nat), rest = rop.map encO ∧ (E.map castE ++ rop.map (·.1)).Perm (op.map (·.1)) ∧ ∀ x, x ∈ rop → x ∈ op
theorem LeftO.start (op : List ((Int × Int) × Nat × Nat)) : LeftO op [] (op.map encO) := ⟨op, rfl, List.Perm.refl _, fun _ h => h⟩
theorem LeftO.next {op : List ((Int × Int) × Nat × Nat)} {E : List (Nat × Nat)} {rest : List (Value × Value)} (h : LeftO op E rest) {T : List (Nat × Nat × Nat)} (hm : ∀ e, e ∈ op.map (·.1) → ∃ x, x ∈ borderT T ∧ e = castE x) {i : Nat} {x v : Value} (hx : rest[i]? = some (x, v)) :
  ∃ a b : Nat, (a, b) ∈ borderT T ∧ x = .agg #[.int .i64 (a : Int), .int .i64 (b : Int)] ∧ LeftO op (E ++ [(a, b)]) (rest.eraseIdx i) ∧ E.length < op.length := by
 obtain ⟨rop, rfl, hp, hs⟩ := h.at_
 rw [List.getElem?_map] at hx
 obtain ⟨y, hy, hy2⟩ : ∃ y, rop[i]? = some y ∧ encO y = (x, v) := by
  cases h : rop[i]? with
  | none => rw [h] at hx; cases hx
  | some y => rw [h] at hx; exact ⟨y, rfl, by simpa using hx⟩
 obtain ⟨⟨a, b⟩, hab, he⟩ := hm y.1 (List.mem_map.2 ⟨y, hs y (List.mem_of_getElem? hy), rfl⟩)
 obtain ⟨⟨p, q⟩, r⟩ := y
 simp only [castE, Prod.mk.injEq] at he
 obtain ⟨rfl, rfl⟩ := he
 have hi := (List.getElem?_eq_some_iff.1 hy).1
 have hperm : rop.Perm (((((a : Int), (b : Int)), r)) :: rop.eraseIdx i) := perm_eraseIdx rop i _ hy
 refine ⟨a, b, hab, ?_, ⟨rop.eraseIdx i, ?_, ?_, fun z hz => hs z ((List.eraseIdx_sublist _ _).subset hz)⟩, ?_⟩
 ·have := congrArg Prod.fst hy2
  exact this.symm
 ·rw [ChangeMaps.map_eraseIdx]
 ·refine List.Perm.trans ?_ hp
  rw [List.map_append, List.append_assoc]
  refine List.Perm.append_left _ ?_
  have := (hperm.map (·.1)).symm
  simpa [castE] using this
 ·have := hp.length_eq
  rw [List.length_append, List.length_map, List.length_map, List.length_map] at this
  omega
theorem LeftO.done {op : List ((Int × Int) × Nat × Nat)} {E : List (Nat × Nat)} (h : LeftO op E []) {T : List (Nat × Nat × Nat)} (hp : (op.map (·.1)).Perm ((borderT T).map castE)) : E.Perm (borderT T) := by
 obtain ⟨rop, h0, h1, -⟩ := h.at_
 have : rop = [] := by cases rop with
  | nil => rfl
  | cons a t => cases h0
 subst this
 refine perm_cast (List.Perm.trans ?_ hp)
 simpa using h1
/-- When the ghosts have come, too, nothing waits. -/
theorem open_none {fa : Int → Int → Bool} {T : List (Nat × Nat × Nat)} (g : Good T) {Bd : List (Nat × Nat)} (hp : Bd.Perm (borderT T)) {S : List TriM} {op : List ((Int × Int) × Nat × Nat)} (hJ : Joined fa (hRev ((Bd.map ghostV).reverse ++ (T.map realV).reverse)) S op) : op = [] := by
 rw [← List.reverse_append] at hJ
 refine hJ.closed fun t i a b h => ?_
 have := edge_hRev.1 ⟨t, i, h⟩
 exact edge_hRev.2 (all_closed g hp a b this)
theorem all_distinct' {T : List (Nat × Nat × Nat)} (g : Good T) {Bd : List (Nat × Nat)} (hp : Bd.Perm (borderT T)) : Distinct (hRev (T.map realV ++ Bd.map ghostV).reverse) :=
 distinct_list (all_nodup g hp) (all_apart g hp)
theorem take_both {T : List (Nat × Nat × Nat)} {E : List (Nat × Nat)} (k : Nat) : ((T.map realV ++ E.map ghostV).take (T.length + k)).reverse = ((E.take k).map ghostV).reverse ++ (T.map realV).reverse := by
 rw [List.take_append, List.take_of_length_le (by simp), List.reverse_append]
 simp [List.map_take]
theorem ghost_next {E : List (Nat × Nat)} {k : Nat} {e : Nat × Nat} (he : E[k]? = some e) (R : List (Int × Int × Int)) : ((E.take (k + 1)).map ghostV).reverse ++ R = ((e.2 : Int), (e.1 : Int), -1) :: (((E.take k).map ghostV).reverse ++ R) := by
 rw [List.take_add_one, he, List.map_append, List.reverse_append]; rfl
end Go.MagM
/- Closed surfaces of triangles: each edge once, across it the other half. What mesh's calls answer of them. Pure. -/
namespace Go.MagM
/-- The triangles V lie in the slots, one by one; all their edges are joined. -/
structure Surf (fa : Int → Int → Bool) (V : List (Int × Int × Int)) (S : List TriM) : Prop where
 len : S.length = V.length
 v : ∀ t : Nat, rdV S t = V[t]?
 live : ∀ x, x ∈ V → 0 ≤ x.1
 distinct : Distinct (hRev V.reverse)
 joined : Joined fa (hRev V.reverse) S []
section
variable {fa : Int → Int → Bool} {V : List (Int × Int × Int)} {S : List TriM}
theorem Surf.get (h : Surf fa V S) {t : Nat} {T : TriM} (hT : S[t]? = some T) : V[t]? = some (T.v0, T.v1, T.v2) := by
 rw [← h.v t]; unfold rdV; rw [hT]; rfl
theorem Surf.at_ (h : Surf fa V S) {t : Nat} {x : Int × Int × Int} (hx : V[t]? = some x) : ∃ T, S[t]? = some T ∧ T.v0 = x.1 ∧ T.v1 = x.2.1 ∧ T.v2 = x.2.2 := by
 have := h.v t
 rw [hx] at this
 obtain ⟨a, b, c⟩ := x
 unfold rdV at this
 cases hs : S[t]? with
 | none => rw [hs] at this; cases this
 | some T =>
  rw [hs] at this
  simp only [Option.map_some, Option.some.injEq, Prod.mk.injEq] at this
  exact ⟨T, rfl, this.1, this.2.1, this.2.2⟩
theorem Surf.alive (h : Surf fa V S) {t : Nat} {T : TriM} (hT : S[t]? = some T) : 0 ≤ T.v0 ∧ goneB T = false := by
 have h0 := h.live _ (List.mem_of_getElem? (h.get hT))
 simp only [] at h0
 exact ⟨h0, by unfold goneB; exact decide_eq_false (by omega)⟩
theorem Surf.half (h : Surf fa V S) {t i : Nat} {T : TriM} (hT : S[t]? = some T) (hi : i < 3) : (t, i, edgeV T i) ∈ hRev V.reverse := by
 refine hRev_mem.2 ⟨(T.v0, T.v1, T.v2), by rw [List.reverse_reverse]; exact h.get hT, ?_⟩
 obtain rfl | rfl | rfl : i = 0 ∨ i = 1 ∨ i = 2 := by omega
 all_goals simp [halfV, edgeV]
theorem Surf.of_half (h : Surf fa V S) {t i : Nat} {e : Int × Int} (hm : (t, i, e) ∈ hRev V.reverse) : ∃ T, S[t]? = some T ∧ i < 3 ∧ edgeV T i = e := by
 obtain ⟨v, h1, h2⟩ := hRev_mem.1 hm
 rw [List.reverse_reverse] at h1
 obtain ⟨T, hT, e0, e1, e2⟩ := h.at_ h1
 obtain ⟨x, y, z⟩ := v
 simp only [] at e0 e1 e2
 subst e0; subst e1; subst e2
 simp only [halfV, List.mem_cons, List.not_mem_nil, or_false, Prod.mk.injEq] at h2
 rcases h2 with ⟨-, rfl, rfl⟩ | ⟨-, rfl, rfl⟩ | ⟨-, rfl, rfl⟩
 ·exact ⟨T, hT, by omega, rfl⟩
 ·exact ⟨T, hT, by omega, rfl⟩
 ·exact ⟨T, hT, by omega, rfl⟩
/-- No edge is there twice. -/
theorem Surf.once (h : Surf fa V S) {t u i j : Nat} {T U : TriM} (hT : S[t]? = some T) (hU : S[u]? = some U) (hi : i < 3) (hj : j < 3) (he : edgeV T i = edgeV U j) : t = u ∧ i = j := by
 have h1 := h.half hT hi
 have h2 := h.half hU hj
 rw [he] at h1
 exact h.distinct.edge _ _ _ _ _ h1 h2
theorem Surf.apart (h : Surf fa V S) {t i : Nat} {T : TriM} (hT : S[t]? = some T) (hi : i < 3) : (edgeV T i).1 ≠ (edgeV T i).2 :=
 h.distinct.apart t i _ _ (h.half hT hi)
theorem Surf.across (h : Surf fa V S) {t u i j : Nat} {T U : TriM} (hT : S[t]? = some T) (hU : S[u]? = some U) (hi : i < 3) (hj : j < 3) (he : edgeV U j = ((edgeV T i).2, (edgeV T i).1)) : T.n i = (u : Int) ∧ T.f i = fa (edgeV T i).1 (edgeV T i).2 := by
 have h2 := h.half hU hj
 rw [he] at h2
 have := h.joined.across t i _ _ u j (h.half hT hi) h2
 unfold rdN at this
 rw [hT] at this
 simp only [Option.map_some, Option.some.injEq, Prod.mk.injEq] at this
 exact this
/-- Each edge has its other half. -/
theorem Surf.other (h : Surf fa V S) {t i : Nat} {T : TriM} (hT : S[t]? = some T) (hi : i < 3) : ∃ (u j : Nat) (U : TriM), S[u]? = some U ∧ j < 3 ∧ edgeV U j = ((edgeV T i).2, (edgeV T i).1) ∧ T.n i = (u : Int) ∧ T.f i = fa (edgeV T i).1 (edgeV T i).2 ∧ U.n j = (t : Int) ∧ U.f j = fa (edgeV T i).2 (edgeV T i).1 := by
 have hm := h.half hT hi
 have hw := h.joined.wait (edgeV T i).1 (edgeV T i).2 t i
 obtain ⟨u, j, hu⟩ : ∃ u j, (u, j, ((edgeV T i).2, (edgeV T i).1)) ∈ hRev V.reverse := by
  refine Classical.byContradiction fun hno => ?_
  have hno' : ∀ u j, (u, j, ((edgeV T i).2, (edgeV T i).1)) ∉ hRev V.reverse := fun u j hu => hno ⟨u, j, hu⟩
  have := hw.2 ⟨hm, hno'⟩
  cases this
 obtain ⟨U, hU, hj, he⟩ := h.of_half hu
 have a1 := h.across hT hU hi hj he
 have a2 := h.across hU hT hj hi (by rw [he])
 rw [he] at a2
 exact ⟨u, j, U, hU, hj, he, a1.1, a1.2, a2.1, a2.2⟩
theorem edgeT_at {T : TriM} {i : Nat} (hi : i < 3) (h : ∀ j k : Nat, j < 3 → k < 3 → edgeV T j = edgeV T k → j = k) : edgeT T (edgeV T i).1 (edgeV T i).2 = (i : Int) :=
 edgeT_hit hi rfl fun j hj e => by have := h j i (by omega) hi e; omega
theorem Surf.edge_at (h : Surf fa V S) {t i : Nat} {T : TriM} (hT : S[t]? = some T) (hi : i < 3) : edgeT T (edgeV T i).1 (edgeV T i).2 = (i : Int) :=
 edgeT_at hi fun _ _ hj hk e => (h.once hT hT hj hk e).2
theorem Surf.linkI (h : Surf fa V S) (hfa : ∀ a b, fa a b = fa b a) {t i : Nat} {T : TriM} (hT : S[t]? = some T) (hi : i < 3) : linkI S t T i = true := by
 obtain ⟨u, j, U, hU, hj, he, h1, h2, h3, h4⟩ := h.other hT hi
 have hg := (h.alive hU).2
 have ha := h.edge_at hU hj
 rw [he] at ha
 simp only [] at ha
 unfold Go.MagM.linkI
 rw [h1, getT_nat, hU]
 simp only []
 rw [hg, ha]
 have e1 : ((j : Int) != -1) = true := by simp
 have e2 : ((j : Int)).toNat = j := rfl
 rw [e1, e2, h3, h4, h2, hfa]
 simp
theorem Surf.linked (h : Surf fa V S) (hfa : ∀ a b, fa a b = fa b a) {t : Nat} {T : TriM} (hT : S[t]? = some T) : linkedT S t T = true :=
 linkedT_yes fun _ hi => h.linkI hfa hT hi
/-- What Find answers. -/
theorem Surf.edgeM_yes (h : Surf fa V S) {t i : Nat} {T : TriM} (hT : S[t]? = some T) (hi : i < 3) : edgeM S (t : Int) (edgeV T i).1 (edgeV T i).2 = (i : Int) := by
 unfold edgeM
 rw [getT_nat, hT]
 simp only []
 rw [(h.alive hT).2, h.edge_at hT hi]; simp
theorem Surf.edgeM_cases (h : Surf fa V S) {t : Nat} (ht : t < S.length) (a b : Int) : edgeM S (t : Int) a b = -1 ∨ ∃ (i : Nat) (T : TriM), S[t]? = some T ∧ i < 3 ∧ edgeV T i = (a, b) ∧ edgeM S (t : Int) a b = (i : Int) := by
 obtain ⟨T, hT⟩ : ∃ T, S[t]? = some T := ⟨_, List.getElem?_eq_getElem ht⟩
 unfold edgeM
 rw [getT_nat, hT]
 simp only []
 rw [(h.alive hT).2]
 rcases edgeT_cases T a b with e | ⟨j, hj, e1, e2⟩
 ·left; simpa using e
 ·right; exact ⟨j, T, rfl, hj, e2, by simpa using e1⟩
theorem Surf.find (h : Surf fa V S) {t i : Nat} {T : TriM} (hT : S[t]? = some T) (hi : i < 3) {a b : Int} (he : edgeV T i = (a, b)) : findM S a b = some (t, (i : Int)) := by
 have ht := (List.getElem?_eq_some_iff.1 hT).1
 have e := h.edgeM_yes hT hi
 rw [he] at e
 simp only [] at e
 rw [findM_hit ht (by rw [e]; omega) (fun j hj => ?_), e]
 rcases h.edgeM_cases (t := j) (by omega) a b with e' | ⟨k, U, hU, hk, e1, -⟩
 ·exact e'
 ·have := (h.once hU hT hk hi (by rw [e1, he])).1; omega
end
/-- Triangles of a mesh, and ghosts behind its border. -/
def allV (T : List (Nat × Nat × Nat)) (Bd : List (Nat × Nat)) : List (Int × Int × Int) := T.map realV ++ Bd.map ghostV
/-- What the statements' Build leaves. -/
structure Built (fa : Int → Int → Bool) (T : List (Nat × Nat × Nat)) (Bd : List (Nat × Nat)) (S : List TriM) : Prop where
 good : Good T
 perm : Bd.Perm (borderT T)
 surf : Surf fa (allV T Bd) S
theorem all_distinct {T : List (Nat × Nat × Nat)} (g : Good T) {Bd : List (Nat × Nat)} (hp : Bd.Perm (borderT T)) : Distinct (hRev (allV T Bd).reverse) :=
 distinct_list (all_nodup g hp) (all_apart g hp)
theorem Built.of {fa : Int → Int → Bool} {T : List (Nat × Nat × Nat)} {Bd : List (Nat × Nat)} {S : List TriM} (g : Good T) (h4 : 4 ≤ T.length + (borderT T).length) (hp : Bd.Perm (borderT T))
  (hb : BuiltS S ((Bd.map ghostV).reverse ++ (T.map realV).reverse)) (hj : Joined fa (hRev ((Bd.map ghostV).reverse ++ (T.map realV).reverse)) S []) : Built fa T Bd S := by
 have hr : (Bd.map ghostV).reverse ++ (T.map realV).reverse = (allV T Bd).reverse := by unfold allV; rw [List.reverse_append]
 rw [hr] at hb hj
 have hl : S.length = (allV T Bd).length := by
  have := hb.len
  rw [List.length_reverse] at this
  rw [this]
  have : (allV T Bd).length = T.length + (borderT T).length := by unfold allV; simp [hp.length_eq]
  omega
 refine ⟨g, hp, ⟨hl, fun t => ?_, fun x hx => hb.live x (List.mem_reverse.2 hx), all_distinct g hp, hj⟩⟩
 cases hx : (allV T Bd)[t]? with
 | some x => exact hb.v t x (by rw [List.reverse_reverse]; exact hx)
 | none =>
  unfold rdV
  rw [List.getElem?_eq_none (by rw [hl]; exact List.getElem?_eq_none_iff.1 hx)]; rfl
section
variable {fa : Int → Int → Bool} {T : List (Nat × Nat × Nat)} {Bd : List (Nat × Nat)} {S : List TriM}
theorem Built.len (h : Built fa T Bd S) : S.length = T.length + Bd.length := by
 rw [h.surf.len]; unfold allV; simp
theorem Built.real (h : Built fa T Bd S) {t : Nat} {x : Nat × Nat × Nat} (hx : T[t]? = some x) : ∃ X, S[t]? = some X ∧ X.v0 = (x.1 : Int) ∧ X.v1 = (x.2.1 : Int) ∧ X.v2 = (x.2.2 : Int) := by
 refine h.surf.at_ (x := realV x) ?_
 unfold allV
 have hl := (List.getElem?_eq_some_iff.1 hx).1
 rw [List.getElem?_append_left (by simpa using hl), List.getElem?_map, hx]; rfl
theorem Built.ghost (h : Built fa T Bd S) {k : Nat} {e : Nat × Nat} (he : Bd[k]? = some e) : ∃ X, S[T.length + k]? = some X ∧ X.v0 = (e.2 : Int) ∧ X.v1 = (e.1 : Int) ∧ X.v2 = -1 := by
 refine h.surf.at_ (x := ghostV e) ?_
 unfold allV
 rw [List.getElem?_append_right (by simp), List.length_map, Nat.add_sub_cancel_left, List.getElem?_map, he]; rfl
/-- Each slot has a real triangle, or a ghost. -/
theorem Built.cases (h : Built fa T Bd S) {t : Nat} {X : TriM} (hX : S[t]? = some X) : (∃ x, T[t]? = some x ∧ X.v0 = (x.1 : Int) ∧ X.v1 = (x.2.1 : Int) ∧ X.v2 = (x.2.2 : Int)) ∨ (∃ k e, t = T.length + k ∧ Bd[k]? = some e ∧ X.v0 = (e.2 : Int) ∧ X.v1 = (e.1 : Int) ∧ X.v2 = -1) := by
 have ht := (List.getElem?_eq_some_iff.1 hX).1
 rw [h.len] at ht
 by_cases hlt : t < T.length
 ·obtain ⟨x, hx⟩ : ∃ x, T[t]? = some x := ⟨_, List.getElem?_eq_getElem hlt⟩
  obtain ⟨Y, hY, h1⟩ := h.real hx
  rw [hX] at hY; cases hY
  exact .inl ⟨x, hx, h1⟩
 ·obtain ⟨e, he⟩ : ∃ e, Bd[t - T.length]? = some e := ⟨_, List.getElem?_eq_getElem (by omega)⟩
  obtain ⟨Y, hY, h1⟩ := h.ghost he
  rw [show T.length + (t - T.length) = t by omega, hX] at hY; cases hY
  exact .inr ⟨t - T.length, e, by omega, he, h1⟩
theorem Built.real_iff (h : Built fa T Bd S) (t : Nat) : realM S (t : Int) = decide (t < T.length) := by
 unfold realM
 rw [getT_nat]
 by_cases ht : t < S.length
 ·obtain ⟨X, hX⟩ : ∃ X, S[t]? = some X := ⟨_, List.getElem?_eq_getElem ht⟩
  rw [hX]
  simp only []
  unfold realT
  rcases h.cases hX with ⟨x, hx, e0, e1, e2⟩ | ⟨k, e, rfl, he, e0, e1, e2⟩
  ·have := (List.getElem?_eq_some_iff.1 hx).1
   rw [decide_eq_true this, decide_eq_true (by omega)]
  ·rw [decide_eq_false (by omega), decide_eq_false (by omega)]
 ·rw [List.getElem?_eq_none (by omega)]
  have := h.len
  simp only []
  rw [decide_eq_false (by omega)]
end
end Go.MagM
/- What the statements' Build leaves is sound, in whatever order the ghosts come. Pure. -/
namespace Go.MagM
/-- The edge of the border ahead. -/
def prevB (B : List (Nat × Nat)) (e : Nat × Nat) : Nat × Nat := (B.find? fun p => p.2 == e.1).getD (0, 0)
/-- Round the border, to the right, till the first edge comes again. -/
def cycB (B : List (Nat × Nat)) (first : Nat × Nat) : Nat → Nat × Nat → List (Nat × Nat)
 | 0, _ => []
 | n + 1, e => e :: (if prevB B e = first then [] else cycB B first n (prevB B e))
/-- The border's points, to the left. -/
def rimB (B : List (Nat × Nat)) (n : Nat) (e : Nat × Nat) : List Nat := ((cycB B e n e).map (·.2)).reverse
section
variable {fa : Int → Int → Bool} {T : List (Nat × Nat × Nat)} {Bd : List (Nat × Nat)} {S : List TriM}
theorem Built.mem (h : Built fa T Bd S) {e : Nat × Nat} : e ∈ Bd ↔ e ∈ borderT T := h.perm.mem_iff
theorem Built.nodup (h : Built fa T Bd S) : Bd.Nodup := by
 have h1 : (Bd.map (·.1)).Nodup := ((h.perm.map _).nodup_iff).2 h.good.out
 exact nodup_of_map h1
theorem prevB_is (g : Good T) {e : Nat × Nat} (he : e ∈ borderT T) : prevB (borderT T) e ∈ borderT T ∧ (prevB (borderT T) e).2 = e.1 := by
 obtain ⟨⟨x, hx, hx2⟩, -⟩ := g.next e he
 unfold prevB
 cases hf : (borderT T).find? (fun p => p.2 == e.1) with
 | none =>
  have := List.find?_eq_none.1 hf x hx
  simp [hx2] at this
 | some p =>
  have h1 := List.find?_some hf
  have h2 := List.mem_of_find?_eq_some hf
  exact ⟨h2, by simpa using h1⟩
theorem Built.place_ghost (h : Built fa T Bd S) {k : Nat} {e : Nat × Nat} (he : Bd[k]? = some e) : placeM S ((T.length + k : Nat) : Int) (-1) = 2 := by
 obtain ⟨X, hX, e0, e1, e2⟩ := h.ghost he
 unfold placeM
 rw [getT_nat, hX]
 simp only []
 rw [(h.surf.alive hX).2]
 simp only [Bool.false_eq_true, if_false]
 unfold placeT
 rw [if_neg (by omega), if_neg (by omega), if_pos e2.symm]
theorem Built.place_real (h : Built fa T Bd S) {t : Nat} (ht : t < T.length) : placeM S (t : Int) (-1) = -1 := by
 obtain ⟨x, hx⟩ : ∃ x, T[t]? = some x := ⟨_, List.getElem?_eq_getElem ht⟩
 obtain ⟨X, hX, e0, e1, e2⟩ := h.real hx
 unfold placeM
 rw [getT_nat, hX]
 simp only []
 rw [(h.surf.alive hX).2]
 simp only [Bool.false_eq_true, if_false]
 unfold placeT
 rw [if_neg (by omega), if_neg (by omega), if_neg (by omega)]
theorem Built.first (h : Built fa T Bd S) (hb : Bd ≠ []) : firstM S (-1) = ((T.length : Nat) : Int) := by
 obtain ⟨e, he⟩ : ∃ e, Bd[0]? = some e := by
  cases hB : Bd with
  | nil => exact absurd hB hb
  | cons e l => exact ⟨e, rfl⟩
 have hl : 0 < Bd.length := (List.getElem?_eq_some_iff.1 he).1
 have := h.place_ghost he
 rw [Nat.add_zero] at this
 exact firstM_hit (by rw [h.len]; omega) (by rw [this]; omega) (fun j hj => h.place_real hj)
theorem Built.step (h : Built fa T Bd S) {k k' : Nat} {e e' : Nat × Nat} (he : Bd[k]? = some e) (he' : Bd[k']? = some e') (hn : e'.2 = e.1) : stepM S (-1) ((T.length + k : Nat) : Int) = ((T.length + k' : Nat) : Int) := by
 obtain ⟨X, hX, e0, e1, e2⟩ := h.ghost he
 obtain ⟨Y, hY, f0, f1, f2⟩ := h.ghost he'
 unfold stepM
 rw [getT_nat, hX]
 simp only []
 have hp : placeT X (-1) = 2 := by
  unfold placeT
  rw [if_neg (by omega), if_neg (by omega), if_pos e2.symm]
 rw [hp, show (((2 : Int)).toNat + 1) % 3 = 0 from rfl]
 have := (h.surf.across hX hY (i := 0) (j := 1) (by omega) (by omega) (by
  show (Y.v2, Y.v0) = (X.v2, X.v1)
  rw [f2, f0, e2, e1, hn])).1
 exact this
theorem Built.walk (h : Built fa T Bd S) {k0 : Nat} {e0 : Nat × Nat} (h0 : Bd[k0]? = some e0) : ∀ (n k : Nat) (e : Nat × Nat), Bd[k]? = some e → rimZ S (walkM S (-1) ((T.length + k0 : Nat) : Int) n ((T.length + k : Nat) : Int)) = (cycB (borderT T) e0 n e).map (fun x => (x.2 : Int))
 | 0, _, _, _ => rfl
 | n + 1, k, e, he => by
  have hp := h.place_ghost he
  obtain ⟨X, hX, x0, x1, x2⟩ := h.ghost he
  obtain ⟨hm, hn⟩ := prevB_is h.good (h.mem.1 (List.mem_of_getElem? he))
  obtain ⟨k', hk'⟩ := List.mem_iff_getElem?.1 (h.mem.2 hm)
  have hs := h.step he hk' hn
  have ih := Built.walk h h0 n k' _ hk'
  unfold walkM cycB
  rw [hp, if_neg (by omega), hs]
  have hv : vAt S (T.length + k) 0 = (e.2 : Int) := by unfold vAt; rw [hX]; exact x0
  have hd : (((T.length + k' : Nat) : Int) = ((T.length + k0 : Nat) : Int)) ↔ prevB (borderT T) e = e0 := by
   constructor
   ·intro q
    have : k' = k0 := by omega
    subst this
    rw [hk'] at h0; exact Option.some.inj h0
   ·intro q
    rw [q] at hk'
    have hkl := (List.getElem?_eq_some_iff.1 hk').1
    have := (List.getElem?_inj hkl h.nodup).1 (hk'.trans h0.symm)
    omega
  by_cases hq : prevB (borderT T) e = e0
  ·rw [if_pos (hd.2 hq), if_pos hq]
   simp only [rimZ, List.map_cons, List.map_nil]
   rw [show (((2 : Int)).toNat + 1) % 3 = 0 from rfl, Int.toNat_natCast, hv]
  ·rw [if_neg (fun x => hq (hd.1 x)), if_neg hq]
   unfold rimZ at ih ⊢
   rw [List.map_cons, List.map_cons, ih]
   simp only [Int.toNat_natCast]
   rw [show (((2 : Int)).toNat + 1) % 3 = 0 from rfl, hv]
theorem Built.border (h : Built fa T Bd S) {e0 : Nat × Nat} (h0 : Bd[0]? = some e0) : borderM S = (rimB (borderT T) (T.length + (borderT T).length) e0).map (fun v : Nat => (v : Int)) := by
 have hb : Bd ≠ [] := by rintro rfl; simp at h0
 unfold borderM rimB
 rw [h.first hb]
 have := h.walk h0 S.length 0 e0 h0
 rw [Nat.add_zero] at this
 rw [this, h.len, h.perm.length_eq, List.map_reverse, List.map_map]; rfl
theorem Built.rest (h : Built fa T Bd S) {k : Nat} {e : Nat × Nat} (he : Bd[k]? = some e) {X : TriM} (hX : S[T.length + k]? = some X) : realM S X.n2 = true := by
 obtain ⟨Y, hY, e0, e1, e2⟩ := h.ghost he
 rw [hX] at hY; cases hY
 obtain ⟨u, j, U, hU, hj, hE, hn, -⟩ := h.surf.other hX (i := 2) (by omega)
 have hE' : edgeV U j = ((e.1 : Int), (e.2 : Int)) := by rw [hE]; show (X.v1, X.v0) = _; rw [e0, e1]
 have hn' : X.n2 = (u : Int) := hn
 rw [hn', h.real_iff]
 rcases h.cases hU with ⟨x, hx, -⟩ | ⟨k', e', rfl, he', f0, f1, f2⟩
 ·exact decide_eq_true (List.getElem?_eq_some_iff.1 hx).1
 ·exfalso
  have hb := mem_border.1 (h.mem.1 (List.mem_of_getElem? he))
  have hb' := mem_border.1 (h.mem.1 (List.mem_of_getElem? he'))
  obtain rfl | rfl | rfl : j = 0 ∨ j = 1 ∨ j = 2 := by omega
  ·simp only [edgeV, Prod.mk.injEq] at hE'; omega
  ·simp only [edgeV, Prod.mk.injEq] at hE'; omega
  ·simp only [edgeV, Prod.mk.injEq] at hE'
   have q : e' = (e.2, e.1) := Prod.ext (by simp only []; omega) (by simp only []; omega)
   rw [q] at hb'
   exact hb.2 hb'.1
end
end Go.MagM
namespace Go.Proofs.Ytecnnpkpgbbfkaa
open Go.RowKit Go.MagM
section
variable {F : Int → Int → Bool} {T : List (Nat × Nat × Nat)} {Bd : List (Nat × Nat)} {S : List TriM} {P : List (Int × Int)}
theorem built_gh (h : Built (faF F) T Bd S) : ∀ k, k ≤ S.length → ghN S k = k - T.length
 | 0, _ => by simp [ghN]
 | k + 1, hk => by
  have ih := built_gh h k (by omega)
  by_cases hlt : k < T.length
  ·rw [ghN_none (h.place_real hlt), ih]; omega
  ·have hl := h.len
   obtain ⟨e, he⟩ : ∃ e, Bd[k - T.length]? = some e := ⟨_, List.getElem?_eq_getElem (by omega)⟩
   have hp := h.place_ghost he
   rw [show T.length + (k - T.length) = k by omega] at hp
   rw [ghN_some (by rw [hp]; omega), ih]; omega
theorem built_formed (h : Built (faF F) T Bd S) (ht : ∀ t, t ∈ T → 0 < turnM P (t.1 : Int) (t.2.1 : Int) (t.2.2 : Int)) {k : Nat} {X : TriM} (hX : S[k]? = some X) : formedT P S X = true := by
 unfold formedT
 rcases h.cases hX with ⟨x, hx, e0, e1, e2⟩ | ⟨j, e, rfl, he, e0, e1, e2⟩
 ·have hp : placeT X (-1) = -1 := by
   unfold placeT
   rw [if_neg (by omega), if_neg (by omega), if_neg (by omega)]
  rw [if_pos hp, e0, e1, e2]
  exact decide_eq_true (ht x (List.mem_of_getElem? hx))
 ·have hp : placeT X (-1) = 2 := by
   unfold placeT
   rw [if_neg (by omega), if_neg (by omega), if_pos e2.symm]
  rw [hp, if_neg (by omega), if_neg (by omega), if_neg (by omega), h.rest he hX]
  obtain ⟨_, _, _, _, _, _, _, g0, _⟩ := h.surf.other hX (i := 0) (by omega)
  obtain ⟨_, _, _, _, _, _, _, g1, _⟩ := h.surf.other hX (i := 1) (by omega)
  have f0 : X.f0 = false := by
   have : X.f0 = faF F X.v1 X.v2 := g0
   rw [this, e2]; unfold faF; simp
  have f1 : X.f1 = false := by
   have : X.f1 = faF F X.v2 X.v0 := g1
   rw [this, e2]; unfold faF; simp
  rw [f0, f1]; rfl
theorem built_sound (h : Built (faF F) T Bd S) (ht : ∀ t, t ∈ T → 0 < turnM P (t.1 : Int) (t.2.1 : Int) (t.2.2 : Int)) (hb : borderT T ≠ [])
  (hc : ∀ e0, e0 ∈ borderT T → (rimB (borderT T) (T.length + (borderT T).length) e0).length = (borderT T).length ∧ (∀ v, v ∈ rimB (borderT T) (T.length + (borderT T).length) e0 → v < P.length) ∧ convexM P (rimB (borderT T) (T.length + (borderT T).length) e0) = true) : SoundIs P S true := by
 have hbl : 0 < (borderT T).length := List.length_pos_iff.2 hb
 have hBl := h.perm.length_eq
 obtain ⟨e0, he0⟩ : ∃ e0, Bd[0]? = some e0 := ⟨_, List.getElem?_eq_getElem (by omega)⟩
 obtain ⟨c1, c2, c3⟩ := hc e0 (h.mem.1 (List.mem_of_getElem? he0))
 have hbo := h.border he0
 refine .inr ⟨rfl, fun k X hX => ?_, ?_, ?_, _, hbo, c2, c3⟩
 ·unfold okT; rw [built_formed h ht hX, h.surf.linked (faF_comm F) hX]; simp
 ·intro e
  rw [hbo] at e
  have := congrArg List.length e
  rw [List.length_map, c1, List.length_nil] at this
  omega
 ·rw [hbo, List.length_map, c1, built_gh h _ (Nat.le_refl _), h.len]; omega
end
/-- The points of a grid. -/
def gridP (w h : Nat) : List (Int × Int) := (List.range (h + 1)).flatMap fun y => (List.range (w + 1)).map fun x => (((2 * x : Nat) : Int), ((2 * y : Nat) : Int))
def soundG (w h bits : Nat) : Bool :=
 (gridT w h bits).all (fun t => decide (0 < turnM (gridP w h) (t.1 : Int) (t.2.1 : Int) (t.2.2 : Int))) && !(borderT (gridT w h bits)).isEmpty &&
 (borderT (gridT w h bits)).all (fun e0 =>
  (rimB (borderT (gridT w h bits)) ((gridT w h bits).length + (borderT (gridT w h bits)).length) e0).length == (borderT (gridT w h bits)).length &&
  (rimB (borderT (gridT w h bits)) ((gridT w h bits).length + (borderT (gridT w h bits)).length) e0).all (fun v => decide (v < (gridP w h).length)) &&
  convexM (gridP w h) (rimB (borderT (gridT w h bits)) ((gridT w h bits).length + (borderT (gridT w h bits)).length) e0)) &&
 decide (4 ≤ (gridT w h bits).length + (borderT (gridT w h bits)).length) && decide ((gridT w h bits).length ≤ 8) && (gridT w h bits).all (fun t => decide (t.1 < (gridP w h).length) && decide (t.2.1 < (gridP w h).length) && decide (t.2.2 < (gridP w h).length)) &&
 (gridP w h).all (fun p => decide (0 ≤ p.1 ∧ p.1 ≤ 4 ∧ 0 ≤ p.2 ∧ p.2 ≤ 4)) && decide ((gridP w h).length = (w + 1) * (h + 1))
def allSound : Bool := [1, 2].all fun w => [1, 2].all fun h => (List.range 16).all fun bits => soundG w h bits
set_option maxRecDepth 100000 in
theorem all_sound : allSound = true := by decide +kernel
theorem grid_soundG {w h : Nat} (hw : w = 1 ∨ w = 2) (hh : h = 1 ∨ h = 2) {bits : Nat} (hb : bits < 16) : soundG w h bits = true := by
 have := all_sound
 unfold allSound at this
 rw [List.all_eq_true] at this
 have h1 := this w (by rcases hw with rfl | rfl <;> simp)
 rw [List.all_eq_true] at h1
 have h2 := h1 h (by rcases hh with rfl | rfl <;> simp)
 rw [List.all_eq_true] at h2
 exact h2 bits (List.mem_range.2 hb)
/-- What is known of a grid. -/
structure GridOk (w h bits : Nat) : Prop where
 good : MagM.Good (gridT w h bits)
 turn : ∀ t, t ∈ gridT w h bits → 0 < turnM (gridP w h) (t.1 : Int) (t.2.1 : Int) (t.2.2 : Int)
 some_ : borderT (gridT w h bits) ≠ []
 rim : ∀ e0, e0 ∈ borderT (gridT w h bits) → (rimB (borderT (gridT w h bits)) ((gridT w h bits).length + (borderT (gridT w h bits)).length) e0).length = (borderT (gridT w h bits)).length ∧ (∀ v, v ∈ rimB (borderT (gridT w h bits)) ((gridT w h bits).length + (borderT (gridT w h bits)).length) e0 → v < (gridP w h).length) ∧ convexM (gridP w h) (rimB (borderT (gridT w h bits)) ((gridT w h bits).length + (borderT (gridT w h bits)).length) e0) = true
 four : 4 ≤ (gridT w h bits).length + (borderT (gridT w h bits)).length
 few : (gridT w h bits).length ≤ 8
 pts : ∀ t, t ∈ gridT w h bits → t.1 < (gridP w h).length ∧ t.2.1 < (gridP w h).length ∧ t.2.2 < (gridP w h).length
 small : ∀ p, p ∈ gridP w h → 0 ≤ p.1 ∧ p.1 ≤ 4 ∧ 0 ≤ p.2 ∧ p.2 ≤ 4
 many : (gridP w h).length = (w + 1) * (h + 1)
theorem grid_ok {w h : Nat} (hw : w = 1 ∨ w = 2) (hh : h = 1 ∨ h = 2) {bits : Nat} (hb : bits < 16) : GridOk w h bits := by
 have g := MagM.Good.of (grid_good hw hh hb)
 have s := grid_soundG hw hh hb
 unfold soundG at s
 simp only [Bool.and_eq_true, decide_eq_true_eq, List.all_eq_true, beq_iff_eq, Bool.not_eq_true', List.isEmpty_eq_false_iff] at s
 obtain ⟨⟨⟨⟨⟨⟨⟨s1, s2⟩, s3⟩, s4⟩, s5⟩, s6⟩, s7⟩, s8⟩ := s
 exact ⟨g, s1, s2, fun e he => by obtain ⟨⟨q1, q2⟩, q3⟩ := s3 e he; exact ⟨q1, q2, q3⟩, s4, s5, fun t ht => by obtain ⟨⟨q1, q2⟩, q3⟩ := s6 t ht; exact ⟨q1, q2, q3⟩, s7, s8⟩
end Go.Proofs.Ytecnnpkpgbbfkaa
/- The statements' Build. -/
namespace Go.Proofs.Ytecnnpkpgbbfkaa
open Go.RowKit Go.MagM
theorem infoE2 : (Try.prog.info? 22).map (fun i => (i.zero, i.size, i.bytes)) = some (some (.agg #[.int .i64 0, .int .i64 0]), 2, 16) := by kernel_rfl
set_option maxRecDepth 100000 in
set_option maxHeartbeats 16000000 in
theorem Build_any (F : Int → Int → Bool) (T : List (Nat × Nat × Nat)) (a b c fb trb tn tc sb n sc : Nat) (P : List (Int × Int)) (w : World) (g : Go.MagM.Good T) (h1 : T[0]? = some (a, b, c)) (hz : turnM P (a : Int) (b : Int) (c : Int) = 1) (hTl : T.length = tn) (hTs : tn ≤ 1000) (hTp : ∀ x, x ∈ T → x.1 < P.length ∧ x.2.1 < P.length ∧ x.2.2 < P.length)
  (htr : TrIn w trb (T.map realV)) (hf : FaultMap Try.prog 22 w fb F) (hn : P.length = n) (h0 : 0 < n) (hn9 : n ≤ 1000000) (hP : InPs P) (hc : PtsC w sb P) (hbd : 0 < (borderT T).length) (hbn : (borderT T).length ≤ 1000) (hbp : ∀ e, e ∈ borderT T → e.1 < P.length ∧ e.2 < P.length) :
  Calls Try.prog 18 #[.slice (some ⟨sb, 0, none⟩) n sc, .slice (some ⟨trb, 0, none⟩) tn tc, .map (some fb)] w fun e w' => ∃ mb, e = .returned (.pointer (some ⟨mb, 0, none⟩)) ∧ BuildEnd 62 49 F w.heap.size P T mb w' ∧ Below w.heap.size w w' := by
 obtain ⟨w1, hw1, pf_0, hB_0, hs1⟩ := new_box w _ rfl [.map (some fb)] 64
 have G := Lib.hid g; have HT1 := Lib.hid h1; have HTL := Lib.hid hTl; have HTP := Lib.hid hTp; have HTR := Lib.hid htr; have HF := Lib.hid hf; have HPS := Lib.hid hP; have HBD := Lib.hid hbd; have HBN := Lib.hid hbn; have HBP := Lib.hid hbp
 obtain ⟨ca, cb, cc⟩ := htr 0 (a : Int) (b : Int) (c : Int) (by rw [List.getElem?_map, h1]; rfl)
 have tn0 : (0 : Int) < (tn : Int) := by have := (List.getElem?_eq_some_iff.1 h1).1; omega
 have tn1 : 0 < tn := by omega
 have qt_0 : Ats3 w1 trb (0 * 3) (.int .i64 (a : Int)) (.int .i64 (b : Int)) (.int .i64 (c : Int)) := Ats3.below ⟨ca, cb, cc⟩ hB_0
 have pp_0 := hc.below hB_0
 have HZ := Lib.hid hz; have HNN := Lib.hid hn; have HN0 := Lib.hid h0; have HN9 := Lib.hid hn9
 have hltp := pf_0.lt
 have hgb1 := World.block_lt_of_cell? w1 _ qt_0.c0
 simp only at hgb1
 have hgb2 : sb < w1.heap.size := by
  obtain ⟨x, y, hx⟩ : ∃ x y, P[0]? = some (x, y) := ⟨(P[0]'(by omega)).1, (P[0]'(by omega)).2, List.getElem?_eq_getElem (by omega)⟩
  have := World.block_lt_of_cell? w1 _ (pp_0.c _ _ (ptsCells_get P 0 x y hx).1)
  exact this
 clear g h1 hTl hTp htr hf hP hc hz hn h0 hn9 ca cb cc hbd hbn hbp
 go_enter Try.func18, Try.ntmps18
 go_wp2
 clear hw1
 have hWq_0 := Below.refl w1.heap.size w1
 have hsq : w.heap.size ≤ w1.heap.size := hB_0.size
 have hlqpf := pf_0.lt
 have hB_1 := hB_0.drew'
 have pf_1 := pf_0.drew
 have qt_1 := qt_0.drew
 have pp_1 := pp_0.drew
 have hWq_1 := hWq_0.drew'
 clear hB_0 pf_0 qt_0 pp_0 hWq_0
 refine wp_region_noPanic ?_
 refine wp_region_held_drew (S := fun w' => w'.cell? ⟨trb, 0 * 3, none⟩ = some (.int .i64 (a : Int)) ∧ w'.cell? ⟨trb, 0 * 3 + 1, none⟩ = some (.int .i64 (b : Int)) ∧ w'.cell? ⟨trb, 0 * 3 + 2, none⟩ = some (.int .i64 (c : Int))) (by kernel_rfl) (⟨qt_1.c0, qt_1.c1, qt_1.c2⟩) (fun hHeld => ?_)
 refine rU 0 _ _ ?_
 (try simp only [Act.put]);try simp only [sA,sZ,sS]
 refine rU 1 _ _ ?_
 (try simp only [Act.put]);try simp only [sA,sZ,sS]
 refine rU 2 _ _ ?_
 (try simp only [Act.put]);try simp only [sA,sZ,sS]
 refine rU 3 _ _ ?_
 (try simp only [Act.put]);try simp only [sA,sZ,sS]
 refine rU 4 _ _ ?_
 (try simp only [Act.put]);try simp only [sA,sZ,sS]
 refine rU 5 _ _ ?_
 (try simp only [Act.put]);try simp only [sA,sZ,sS]
 refine rU 6 _ _ ?_
 (try simp only [Act.put]);try simp only [sA,sZ,sS]
 refine rU 7 _ _ ?_
 (try simp only [Act.put]);try simp only [sA,sZ,sS]
 refine rU 8 _ _ ?_
 (try simp only [Act.put]);try simp only [sA,sZ,sS]
 refine rU 9 _ _ ?_
 (try simp only [Act.put]);try simp only [sA,sZ,sS]
 refine rU 10 _ _ ?_
 (try simp only [Act.put]);try simp only [sA,sZ,sS]
 refine rU 11 _ _ ?_
 (try simp only [Act.put]);try simp only [sA,sZ,sS]
 refine rU 12 _ _ ?_
 (try simp only [Act.put]);try simp only [sA,sZ,sS]
 refine reg_grab (fun WWq aq hWW hAA => ?_)
 have HWq := Lib.hid hWW; have HAq := Lib.hid hAA; clear hWW hAA hHeld
 have stq_1t : ∀ (w' : World) (nmb : Nat) (npb : Nat) (npc : Nat) (vtv : Value) (gpm : Nat), Below w.heap.size w w' → Box w' (w.heap.size) [.map (some fb)] → Ats3 w' trb (0 * 3) (.int .i64 (a : Int)) (.int .i64 (b : Int)) (.int .i64 (c : Int)) → PtsC w' sb P → Below w1.heap.size w1 w' → MeshUp 62 49 w' w.heap.size nmb npb npc vtv P (newM (a : Int) (b : Int) (c : Int)) → Box w' gpm [.pointer none] → w1.heap.size ≤ gpm → WWq 2 #[true, true, true, true, true, true, true, true, true, true, true, true, true, true, true, true, true, true, false, false] (((((aq.put (some 33) (.tuple #[.pointer (some ⟨nmb, 0, none⟩), .bool true])).put (some 19) (.tuple #[.pointer (some ⟨nmb, 0, none⟩), .bool true])).put (some 34) (.pointer (some ⟨nmb, 0, none⟩))).put (some 35) (.bool true)).put (some 7) (.pointer (some ⟨gpm, 0, none⟩))) w' := by
  intro w11 nmb npb npc vtv gpm hB_0 pf_0 qt_0 pp_0 hWq_0 hms_0 pm_0 hgpm
  rw [HWq.out, HAq.out]
  (try simp only [Act.put]);try simp only [sA,sZ,sS]
  clear hWq_0
  obtain ⟨sf1a, sf1b⟩ := pm_0.open1
  refine reg_call 18 ?_ (by kernel_rfl) ?_ (fun K hK => ?_);rotate_left 1
  ·simp only [gA,gS,gZ]; exact rfl
  go_simp
  have hB_1 := below_setAll hB_0 (g := gpm) (by omega) [.pointer (some ⟨nmb, 0, none⟩)]
  have pf_1 := pf_0.farAll (g' := gpm) (by omega) [.pointer (some ⟨nmb, 0, none⟩)]
  have qt_1 := qt_0.farAll (g' := gpm) (by omega) [.pointer (some ⟨nmb, 0, none⟩)]
  have pp_1 := pp_0.farAll (g' := gpm) (by omega) [.pointer (some ⟨nmb, 0, none⟩)]
  have hms_1 := hms_0.setAll pm_0 (⟨by rw [HNN.out]; exact HN0.out, by show 0 < 4; omega⟩) [.pointer (some ⟨nmb, 0, none⟩)] rfl
  have pm_1 := pm_0.setAll [.pointer (some ⟨nmb, 0, none⟩)] rfl
  simp only [setAll] at hB_1 pf_1 qt_1 pp_1 hms_1 pm_1
  clear sf1a sf1b
  clear hB_0 pf_0 qt_0 pp_0 hms_0 pm_0
  refine hK.out _ _ ⟨qt_1.c0, qt_1.c1, qt_1.c2⟩ (fun hHeld => ?_)
  clear hK K
  (try simp only [Act.put]);try simp only [sA,sZ,sS]
  generalize (World.setCell w11 ⟨gpm, 0, none⟩ (.pointer (some ⟨nmb, 0, none⟩))) = w12 at *
  refine rU 19 _ _ ?_
  (try simp only [Act.put]);try simp only [sA,sZ,sS]
  refine wpAnyH_done (by kernel_rfl) ?_ _
  refine NoPanic.normal ?_
  obtain ⟨tb, tcap, htv⟩ := hms_1.mesh.slot (t := 0) rfl
  have htv : vtv = .slice (some ⟨tb, 0, none⟩) 4 tcap := htv
  subst htv
  have hlm := hms_1.mesh.low.2.1
  have hlg := pm_1.lt
  have hlf := pf_1.lt
  obtain ⟨q1, q2, q3⟩ := hms_1.mesh.apart_of (by rw [HNN.out]; exact HN0.out) (by show 0 < 4; omega) pm_1.c0 rfl
  have ct := hms_1.mesh.box.c1
  have HM := Lib.hid hms_1; have PM := Lib.hid pm_1; have PF := Lib.hid pf_1; have HBW := Lib.hid hB_1; have HTW := Lib.hid hTs
  have cpm := pm_1.c0
  clear hms_1 pf_1 hB_1 qt_1 pp_1 hTs hltp hgb1 hgb2 tn0 tn1 hs1 hsq hlqpf hgpm
  go_wp2
  clear ct cpm pm_1
  go_loopw [9, 43] (fun _ iv wr => ∃ i : Nat, i ≤ 4 ∧ iv = .int .i64 i ∧ MeshUp 62 49 wr w.heap.size nmb npb npc (.slice (some ⟨tb, 0, none⟩) 4 tcap) P (dropS (a : Int) (b : Int) (c : Int) i) ∧ Box wr gpm [.pointer (some ⟨nmb, 0, none⟩)] ∧ Box wr w.heap.size [.map (some fb)] ∧ Below w.heap.size w wr) (fun _ iv _ => 4 - (intOf iv).toNat)
  case atStart => exact ⟨0, by omega, rfl, HM.out, PM.out, PF.out, HBW.out⟩
  case round =>
   obtain ⟨i, hi, rfl, hm, hpm, hpf, hbw⟩ := hrel
   by_cases hlt : i < 4
   ·obtain ⟨T0, hT0, hg0⟩ := dropS_at a b c hlt
    have hdr := Drop_any i T0 wr hm.mesh hT0 hg0
    have HM' := Lib.hid hm; have PM' := Lib.hid hpm; have PF' := Lib.hid hpf; have HBW' := Lib.hid hbw; have HDR := Lib.hid hdr
    have cpm := hpm.c0
    clear hm hpf hbw hdr hT0 hg0 hpm
    go_wp2_with fail
    refine HDR.out.mono ?_
    rintro e w2 ⟨rfl, hm2, mu2⟩
    clear cpm
    obtain ⟨q4, q5, q6⟩ := HM'.out.mesh.apart_of (by rw [HNN.out]; exact HN0.out) (by rw [dropS_len]; omega) PM'.out.c0 rfl
    have hpm2 := Box.mut PM'.out mu2 PM'.out.lt q4 q6
    obtain ⟨r4, r5, r6⟩ := HM'.out.mesh.apart_of (by rw [HNN.out]; exact HN0.out) (by rw [dropS_len]; omega) PF'.out.c0 rfl
    have hpf2 := Box.mut PF'.out mu2 PF'.out.lt r4 r6
    have hbw2 := HBW'.out.trans (MeshUp.mut HM'.out mu2 HBW'.out.size)
    have FIN := Lib.hid (And.intro (show MeshUp 62 49 w2 w.heap.size nmb npb npc (.slice (some ⟨tb, 0, none⟩) 4 tcap) P (dropS (a : Int) (b : Int) (c : Int) (i + 1)) from ⟨hm2, HM'.out.pts⟩) (And.intro hpm2 (And.intro hpf2 hbw2)))
    clear hm2 mu2 hpm2 hpf2 hbw2
    go_wp2
    exact ⟨⟨i + 1, by omega, by go_num, FIN.out⟩, by simp [intOf]; omega⟩
   ·obtain rfl : i = 4 := by omega
    obtain ⟨ob, hob⟩ : ∃ ob, wr.heap.size = ob := ⟨_, rfl⟩
    obtain ⟨hmk, hmp⟩ := run_new_map (P := Try.prog) wr 78 22
    obtain ⟨w3, hw3⟩ : ∃ w3, wr.alloc (.map #[] 0) = w3 := ⟨_, rfl⟩
    rw [hw3, hob] at hmk hmp
    have hb3 : Below wr.heap.size wr w3 := by rw [← hw3]; exact (Below.refl _ _).alloc (Nat.le_refl _) _
    have hs3 : w3.heap.size = ob + 1 := by rw [← hw3, ← hob]; simp
    obtain ⟨w4, hw4, hpo, hb4, hs4⟩ := new_box w3 _ rfl [.map (some ob)] 78
    rw [dropS_all] at hm
    rw [hs3] at hpo
    have hb34 := hb3.trans (hb4.mono hb3.size)
    have HBW4 := Lib.hid (hbw.trans (hb34.mono hbw.size))
    have hbi : BI Try.prog 62 49 22 (faF F) w4 w.heap.size nmb npb npc ob (ob + 1) gpm w.heap.size fb P [] (.slice (some ⟨tb, 0, none⟩) 4 tcap) [goneTri, goneTri, goneTri, goneTri] [] := ⟨hm.below hb34, hmp.below hb4, builtS_nil, Joined.nil _ _, hpo, hpm.below hb34, hpf.below hb34, by have := hbw.size; omega⟩
    have HBI := Lib.hid hbi
    have hdv : Distinct (hRev (T.map realV).reverse) := by
     have e1 := all_nodup G.out (List.Perm.refl _)
     have e2 := all_apart G.out (List.Perm.refl _)
     unfold allE at e1 e2
     rw [List.flatMap_append] at e1 e2
     exact distinct_list (List.nodup_append.1 e1).1 (fun e he => e2 e (List.mem_append_left _ he))
    have HDV := Lib.hid hdv; clear hdv hbi
    clear hm hpm hpf hbw hb3 hb4 hb34 hpo hmp hs4 hlt hi
    go_wp2
    go_loopw [13, 54] (fun _ iv wr => ∃ k : Nat, k ≤ tn ∧ iv = .int .i64 k ∧ (∃ tv S op, BI Try.prog 62 49 22 (faF F) wr w.heap.size nmb npb npc ob (ob + 1) gpm w.heap.size fb P ((T.map realV).take k).reverse tv S op) ∧ Below w.heap.size w wr) (fun _ iv _ => tn - (intOf iv).toNat)
    case atStart => exact ⟨0, Nat.zero_le _, rfl, ⟨_, _, _, HBI.out⟩, HBW4.out⟩
    case round =>
     obtain ⟨k, hk, rfl, ⟨tv, S, op, hbi⟩, hbw⟩ := hrel
     by_cases hlt : k < tn
     ·obtain ⟨⟨x, y, z⟩, hv⟩ : ∃ v, T[k]? = some v := ⟨_, List.getElem?_eq_getElem (by rw [HTL.out]; exact hlt)⟩
      obtain ⟨px, py, pz⟩ := HTP.out _ (List.mem_of_getElem? hv)
      simp only [] at px py pz
      have htk := HTR.out k (x : Int) (y : Int) (z : Int) (by rw [List.getElem?_map, hv]; rfl)
      have ka := (hbw.cell (World.block_lt_of_cell? w _ htk.1)).trans htk.1
      have kb := (hbw.cell (World.block_lt_of_cell? w _ htk.2.1)).trans htk.2.1
      have kc := (hbw.cell (World.block_lt_of_cell? w _ htk.2.2)).trans htk.2.2
      have lmb := hbi.up.mesh.low.2.1
      have ltv : ∀ q, tv.ownBlock = some q → q < wr.heap.size := fun q hq => (hbi.up.mesh.row.lt q hq).2
      have lob := hbi.map.lt
      have hPp : 0 < P.length := by omega
      obtain ⟨R, hR⟩ : ∃ R, ((T.map realV).take k).reverse = R := ⟨_, rfl⟩
      have hRl : R.length = k := by rw [← hR]; simp; have := HTL.out; omega
      have hRn : ((T.map realV).take (k + 1)).reverse = ((x : Int), (y : Int), (z : Int)) :: R := by
       rw [List.take_add_one, List.getElem?_map, hv, List.reverse_append, hR]; rfl
      rw [hR] at hbi
      have hdn := distinct_take HDV.out (k + 1)
      rw [hRn] at hdn
      obtain ⟨w5, hw5, hpv, hb5, hs5⟩ := new_box wr _ rfl [.int .i64 (x : Int), .int .i64 (y : Int), .int .i64 (z : Int)] 46
      have hb6 := (hbi.below hb5).drew
      have hbw6 : Below w.heap.size w w5.drew := (hbw.trans (hb5.mono hbw.size)).drew'
      have hmk := mkTri_any (x : Int) (y : Int) (z : Int) w5.drew hb6.up.mesh (by have := hb6.built.len; have := HTW.out; omega)
      rw [hb6.built.slot, hRl] at hmk
      have c6 : w5.drew.cell? ⟨gpm, 0, none⟩ = some (.pointer (some ⟨nmb, 0, none⟩)) := hb6.bm.c0
      have d0 : w5.drew.cell? ⟨wr.heap.size, 0, none⟩ = some (.int .i64 (x : Int)) := hpv.c0
      have d1 : w5.drew.cell? ⟨wr.heap.size, 1, none⟩ = some (.int .i64 (y : Int)) := hpv.c1
      have d2 : w5.drew.cell? ⟨wr.heap.size, 2, none⟩ = some (.int .i64 (z : Int)) := hpv.c2
      have l5 : wr.heap.size < w5.drew.heap.size := hpv.lt
      have HPX := Lib.hid (And.intro px (And.intro py pz))
      have HB6 := Lib.hid hb6; have HBW6 := Lib.hid hbw6; have HMK := Lib.hid hmk; have HPV := Lib.hid hpv.drew; have HRL := Lib.hid hRl; have HRN := Lib.hid hRn; have HDN := Lib.hid hdn
      have kx1 : (0 : Int) ≤ (k : Int) := by omega
      have kx2 : (k : Int) < (tn : Int) := by omega
      clear hv px py pz htk hR hRl hRn hdn hb6 hbw6 hmk hpv hb5 hbi hbw hs5
      go_wp2
      clear ka kb kc
      obtain ⟨SSs, hSSs⟩ : ∃ S : Array Bool → World → Prop, ∀ l w', S l w' ↔ ((w'.cell? ⟨gpm, 0, none⟩ = some (.pointer (some ⟨nmb, 0, none⟩))) ∧ (w'.cell? ⟨wr.heap.size, 0, none⟩ = some (.int .i64 (x : Int))) ∧ (w'.cell? ⟨wr.heap.size, 1, none⟩ = some (.int .i64 (y : Int))) ∧ (w'.cell? ⟨wr.heap.size, 2, none⟩ = some (.int .i64 (z : Int)))) := ⟨_, fun _ _ => Iff.rfl⟩
      refine wp_region_noPanic ?_
      refine wp_region_G SSs 11 #[false, false, false, false, false, false, false, false, false, false, false] (by kernel_rfl) (by kernel_rfl) (by kernel_rfl) ((hSSs _ _).2 ⟨c6, d0, d1, d2⟩) (fun hCl hHeld => ?_)
      generalize w5.drew = w6 at *
      refine rG 0 ?_ ?_ ?_ ?_ ?_ ?_ hCl hHeld ?_;rotate_left 2
      ·simp only [gA,gZ]; exact rfl
      ·intro l w'; rw [hSSs, hSSs]
      ·rfl
      ·intro w' hA;clear hA;go_simp;try with_reducible rfl
      clear hCl hHeld
      intro hCl hHeld
      simp only [List.setIfInBounds_toArray, List.set_cons_zero] at hCl hHeld
      (try simp only [Act.put]);try simp only [sA,sZ,sS]
      refine rG 1 ?_ ?_ ?_ ?_ ?_ ?_ hCl hHeld ?_;rotate_left 2
      ·simp only [gA,gS,gZ]; exact rfl
      ·intro l w'; rw [hSSs, hSSs]
      ·rfl
      ·intro w' hA; obtain ⟨l, hl, hi, hSl⟩ := hA; have hSl := (hSSs _ _).1 hSl; obtain ⟨hz0, hz1, hz2, hz3⟩ := hSl; go_simp; try with_reducible rfl
      clear hCl hHeld
      intro hCl hHeld
      simp only [sA,sZ,sS] at hCl hHeld
      (try simp only [Act.put]);try simp only [sA,sZ,sS]
      refine rG 2 ?_ ?_ ?_ ?_ ?_ ?_ hCl hHeld ?_;rotate_left 2
      ·simp only [gA,gS,gZ]; exact rfl
      ·intro l w'; rw [hSSs, hSSs]
      ·rfl
      ·intro w' hA;clear hA;go_simp;try with_reducible rfl
      clear hCl hHeld
      intro hCl hHeld
      simp only [sA,sZ,sS] at hCl hHeld
      (try simp only [Act.put]);try simp only [sA,sZ,sS]
      refine rG 3 ?_ ?_ ?_ ?_ ?_ ?_ hCl hHeld ?_;rotate_left 2
      ·simp only [gA,gS,gZ]; exact rfl
      ·intro l w'; rw [hSSs, hSSs]
      ·rfl
      ·intro w' hA; obtain ⟨l, hl, hi, hSl⟩ := hA; have hSl := (hSSs _ _).1 hSl; obtain ⟨hz0, hz1, hz2, hz3⟩ := hSl; go_simp; try with_reducible rfl
      clear hCl hHeld
      intro hCl hHeld
      simp only [sA,sZ,sS] at hCl hHeld
      (try simp only [Act.put]);try simp only [sA,sZ,sS]
      refine rG 4 ?_ ?_ ?_ ?_ ?_ ?_ hCl hHeld ?_;rotate_left 2
      ·simp only [gA,gS,gZ]; exact rfl
      ·intro l w'; rw [hSSs, hSSs]
      ·rfl
      ·intro w' hA;clear hA;go_simp;try with_reducible rfl
      clear hCl hHeld
      intro hCl hHeld
      simp only [sA,sZ,sS] at hCl hHeld
      (try simp only [Act.put]);try simp only [sA,sZ,sS]
      refine rG 5 ?_ ?_ ?_ ?_ ?_ ?_ hCl hHeld ?_;rotate_left 2
      ·simp only [gA,gS,gZ]; exact rfl
      ·intro l w'; rw [hSSs, hSSs]
      ·rfl
      ·intro w' hA; obtain ⟨l, hl, hi, hSl⟩ := hA; have hSl := (hSSs _ _).1 hSl; obtain ⟨hz0, hz1, hz2, hz3⟩ := hSl; go_simp; try with_reducible rfl
      clear hCl hHeld
      intro hCl hHeld
      simp only [sA,sZ,sS] at hCl hHeld
      (try simp only [Act.put]);try simp only [sA,sZ,sS]
      refine rG 6 ?_ ?_ ?_ ?_ ?_ ?_ hCl hHeld ?_;rotate_left 2
      ·simp only [gA,gS,gZ]; exact rfl
      ·intro l w'; rw [hSSs, hSSs]
      ·rfl
      ·intro w' hA;clear hA;go_simp;try with_reducible rfl
      clear hCl hHeld
      intro hCl hHeld
      simp only [sA,sZ,sS] at hCl hHeld
      (try simp only [Act.put]);try simp only [sA,sZ,sS]
      refine rG 7 ?_ ?_ ?_ ?_ ?_ ?_ hCl hHeld ?_;rotate_left 2
      ·simp only [gA,gS,gZ]; exact rfl
      ·intro l w'; rw [hSSs, hSSs]
      ·rfl
      ·intro w' hA; obtain ⟨l, hl, hi, hSl⟩ := hA; have hSl := (hSSs _ _).1 hSl; obtain ⟨hz0, hz1, hz2, hz3⟩ := hSl; go_simp; try with_reducible rfl
      clear hCl hHeld
      intro hCl hHeld
      simp only [sA,sZ,sS] at hCl hHeld
      (try simp only [Act.put]);try simp only [sA,sZ,sS]
      refine rG 9 ?_ ?_ ?_ ?_ ?_ ?_ hCl hHeld ?_;rotate_left 2
      ·simp only [gA,gS,gZ]; exact rfl
      ·intro l w'; rw [hSSs, hSSs]
      ·rfl
      ·intro w' hA; obtain ⟨l, hl, hi, hSl⟩ := hA; have hSl := (hSSs _ _).1 hSl; obtain ⟨hz0, hz1, hz2, hz3⟩ := hSl; go_simp; try with_reducible rfl
      clear hCl hHeld
      intro hCl hHeld
      simp only [sA,sZ,sS] at hCl hHeld
      (try simp only [Act.put]);try simp only [sA,sZ,sS]
      clear hCl hHeld
      refine reg_callG 8 ?_ (by kernel_rfl) ?_ (fun K hK => ?_);rotate_left 1
      ·simp only [gA,gS,gZ]; exact rfl
      go_simp
      refine HMK.out.mono ?_
      rintro e w8 ⟨tv1, rfl, hm8, mu8⟩
      go_wp2_with fail
      clear c6 d0 d1 d2
      obtain ⟨m8, xo8, xm8, xf8, so8, sm8, sf8, sob8, bu8, j8⟩ := HB6.out.made hPp (by omega) hm8 mu8
      obtain ⟨kq1, kq2⟩ := mu8.keep wr.heap.size l5 (by omega) (fun e => Nat.lt_irrefl _ (ltv _ e))
      have pv8 := HPV.out.same kq1
      have b68 : Below w.heap.size w w8 := HBW6.out.trans (HB6.out.up.mut mu8 HBW6.out.size)
      have hjn := join_any F (hRev R) op k (x : Int) (y : Int) (z : Int) (ob + 1) gpm w.heap.size ob fb w8 hm8 m8 (HF.out.same (b68.block fb HF.out.lt)) xo8 xm8 xf8 so8 sm8 sf8
       ⟨by have := HF.out.lt; have := hm8.low.1; omega, fun e => by have := HF.out.lt; have := (hm8.row.lt fb e).1; omega, by have := HF.out.lt; have := HB6.out.big; omega⟩ sob8
       (bu8.v k _ (by rw [List.reverse_cons, List.getElem?_append_right (by simp [HRL.out])]; simp [HRL.out])) (by omega) (fun i => by have := HPX.out; have := HN9.out; have := HNN.out; unfold at3; split <;> omega)
       (fun t' i' e he => bu8.lives t' i' e (halfI_sub (i := 0) 3 he)) j8 (by have := HDN.out; rw [← HRL.out]; exact this) (fun i e he => HB6.out.built.fresh i e (by rw [HRL.out]; exact he))
      have c8 := xm8.c0; have e0 := pv8.c0; have e1 := pv8.c1; have e2 := pv8.c2
      have HJN := Lib.hid hjn; have HM8 := Lib.hid hm8; have MU8 := Lib.hid mu8; have HPV8 := Lib.hid pv8; have HO8 := Lib.hid kq2; have B68 := Lib.hid b68
      have l8 : wr.heap.size < w8.heap.size := pv8.lt
      clear m8 xo8 xm8 xf8 so8 sm8 sf8 sob8 bu8 j8 kq1 kq2 pv8 b68 hjn hm8 mu8
      refine hK.out _ _ ((hSSs _ _).2 ⟨c8, e0, e1, e2⟩) ?_
      clear hK K
      (try simp only [Act.put]);try simp only [sA,sZ,sS]
      refine reg_callG 10 ?_ (by kernel_rfl) ?_ (fun K hK => ?_);rotate_left 1
      ·simp only [gA,gS,gZ]; exact rfl
      go_simp
      refine HJN.out.mono ?_
      rintro e w9 ⟨rfl, hj9⟩
      go_wp2_with fail
      clear c8 e0 e1 e2
      have pv9 : Box w9 wr.heap.size [.int .i64 (x : Int), .int .i64 (y : Int), .int .i64 (z : Int)] := by
       obtain ⟨-, -, -, -, -, -, -, k9⟩ := hj9
       exact HPV8.out.same (k9.keep wr.heap.size l8 (by omega) HO8.out (by omega))
      obtain ⟨hbi9, b69⟩ := HB6.out.next hPp (by omega) HM8.out MU8.out (by rw [HRL.out]; exact hj9) HBW6.out.size
      obtain ⟨S9, op9, hb9⟩ := hbi9
      have c9 := hb9.bm.c0; have f0 := pv9.c0; have f1 := pv9.c1; have f2 := pv9.c2
      have HB9 := Lib.hid hb9; have HBW9 := Lib.hid (HBW6.out.trans b69)
      clear hj9 pv9 b69 hb9
      refine hK.out _ _ ((hSSs _ _).2 ⟨c9, f0, f1, f2⟩) ?_
      clear hK K
      (try simp only [Act.put]);try simp only [sA,sZ,sS]
      refine wpAnyG_done (by kernel_rfl) ?_ _
      refine NoPanic.normal ?_
      clear hSSs SSs
      have htw := HTW.out
      go_wp2
      refine ⟨⟨_, _, _, _, _, _, _, _, _, _, _, _, _, _, _, _, _, ⟨k + 1, by omega, by go_num, ⟨tv1, S9, op9, by rw [HRN.out]; exact HB9.out⟩, HBW9.out⟩, rfl⟩, ?_⟩
      simp [intOf]; omega
     ·obtain rfl : tn = k := by omega
      have htk : (T.map realV).take tn = T.map realV := by rw [← HTL.out, ← List.length_map (f := realV)]; exact List.take_length
      rw [htk] at hbi
      have hpm := open_perm G.out hbi.joined (keys_nodup hbi.map.once)
      have hmem : ∀ e, e ∈ op.map (·.1) → ∃ x, x ∈ borderT T ∧ e = castE x := fun e he => (open_mem hbi.joined).1 he
      have hol : op.length = (borderT T).length := by have := hpm.length_eq; simpa using this
      obtain ⟨rb, hrb⟩ : ∃ rb, wr.heap.size = rb := ⟨_, rfl⟩
      obtain ⟨w5, hrg, hit, hb5, hs5⟩ := hbi.map.range (P := Try.prog) Try.underlying78
      rw [hrb] at hrg hit
      have hs5' : rb + 1 ≤ w5.heap.size := by omega
      have hb5' : Below rb wr w5 := hb5.mono (by omega)
      have cbo := hbi.bo.c0
      have HBI2 := Lib.hid hbi; have HBW2 := Lib.hid hbw; have HPM := Lib.hid hpm; have HMEM := Lib.hid hmem; have HOL := Lib.hid hol; have HIT := Lib.hid hit; have HB5 := Lib.hid hb5'; have HS5 := Lib.hid hs5'; have HRB := Lib.hid hrb
      clear hbi hbw hpm hmem hol hit hb5 hb5' hs5 hs5' htk hlt hk hrb
      obtain ⟨i0, hi, hz0, hz1, hz2⟩ := info_parts infoE2
      have HI := Lib.hid hi; have HZ0 := Lib.hid hz0; have HZ1 := Lib.hid hz1; have HZ2 := Lib.hid hz2
      clear hi hz0 hz1 hz2
      go_wp2
      clear hrg cbo
      obtain ⟨wo, rfl⟩ : ∃ wo, wo = wr := ⟨_, rfl⟩
      go_loopw [14, 15] (fun bv _ wq => ∃ (bq : Value) (E : List (Nat × Nat)) (rest : List (Value × Value)), bq = bv ∧ RowN wq (rb + 1) 22 2 bq E.length (edgCells E) ∧ IterB wq rb ob (op.map encO) rest ∧ LeftO op E rest ∧ Below rb wo wq ∧ rb + 1 ≤ wq.heap.size ∧ E.length ≤ op.length) (fun bv _ _ => op.length - lenV bv)
      case atStart => exact ⟨_, [], _, rfl, RowN.nil _ _ _ _, HIT.out, LeftO.start op, HB5.out, HS5.out, Nat.zero_le _⟩
      case round =>
       obtain ⟨bv, E, rest, rfl, hrow, hit, hlf, hbq, hsq, hel⟩ := hrel
       obtain ⟨wq, rfl⟩ : ∃ wq, wq = wr := ⟨_, rfl⟩
       rcases hit.next (P := Try.prog) 0 with ⟨rfl, hnx⟩ | ⟨i, x, v, w6, hx, hnx, hit6, ht6, hen⟩
       ·have hEp := hlf.done HPM.out
        have HROW := Lib.hid hrow; have HBQ := Lib.hid hbq; have HEP := Lib.hid hEp
        clear hrow hit hlf hbq hel
        obtain ⟨g, gc, hbv, hgb⟩ : ∃ g gc, bv = .slice (some ⟨g, 0, none⟩) E.length gc ∧ rb + 1 ≤ g := by
         have h0 : 0 < E.length := by rw [HEP.out.length_eq]; exact HBD.out
         rcases HROW.out.2 with ⟨h1, h2⟩ | ⟨g, cap, cur, h1, h2, h3⟩
         ·omega
         ·exact ⟨g, cap, h1, h2⟩
        subst hbv
        have hcel := HROW.out.cells (g := g) rfl
        obtain ⟨en, hen⟩ : ∃ en, E.length = en := ⟨_, rfl⟩
        rw [hen]
        have hb2 := HBI2.out.below (HRB.out.symm ▸ HBQ.out)
        have htg : tv.ownBlock ≠ some g := fun e => by have := (HBI2.out.up.mesh.row.lt g e).2; have := HRB.out; omega
        have HCEL := Lib.hid hcel; have HEN := Lib.hid hen; have HB2 := Lib.hid hb2; have HTG := Lib.hid htg
        have HBW3 := Lib.hid (HBW2.out.trans (HBQ.out.mono (by have := HBW2.out.size; have := HRB.out; omega)))
        have hmb : nmb < rb := by have := HBI2.out.up.mesh.low.2.1; have := HRB.out; omega
        have hob : ob < rb := by have := HBI2.out.map.lt; have := HRB.out; omega
        have hen9 : en ≤ 1000 := by have := HBN.out; have := HEP.out.length_eq; omega
        clear hcel hen hb2 htg
        go_wp2
        clear hnx
        go_loopw [17, 18, 82] (fun _ _ iv wz => ∃ k : Nat, k ≤ en ∧ iv = .int .i64 k ∧ (∃ tv S op, BI Try.prog 62 49 22 (faF F) wz w.heap.size nmb npb npc ob (ob + 1) gpm w.heap.size fb P (((E.take k).map ghostV).reverse ++ (T.map realV).reverse) tv S op ∧ tv.ownBlock ≠ some g) ∧ wz.heap[g]? = wq.heap[g]? ∧ wq.heap.size ≤ wz.heap.size ∧ Below w.heap.size w wz) (fun _ _ iv _ => en - (intOf iv).toNat)
        case atStart => exact ⟨0, Nat.zero_le _, rfl, ⟨tv, S, op, HB2.out, HTG.out⟩, rfl, Nat.le_refl _, HBW3.out⟩
        case round =>
         obtain ⟨k, hk, rfl, ⟨tvz, Sz, opz, hbi, htg⟩, hgz, hzs, hbw⟩ := hrel
         obtain ⟨wz, rfl⟩ : ∃ wz, wz = wr := ⟨_, rfl⟩
         by_cases hlt : k < en
         ·obtain ⟨⟨ey, ex⟩, hv⟩ : ∃ v, E[k]? = some v := ⟨_, List.getElem?_eq_getElem (by rw [HEN.out]; exact hlt)⟩
          obtain ⟨p1, p2⟩ := HBP.out _ (HEP.out.mem_iff.1 (List.mem_of_getElem? hv))
          simp only [] at p1 p2
          obtain ⟨g1, g2⟩ := edgCells_get E k (ey, ex) hv
          simp only [] at g1 g2
          have ka : wz.cell? ⟨g, k * 2, none⟩ = some (.int .i64 (ey : Int)) := (World.cell?_of_block (a := ⟨g, k * 2, none⟩) hgz).trans (HCEL.out _ _ g1)
          have kb : wz.cell? ⟨g, k * 2 + 1, none⟩ = some (.int .i64 (ex : Int)) := (World.cell?_of_block (a := ⟨g, k * 2 + 1, none⟩) hgz).trans (HCEL.out _ _ g2)
          have lgz : g < wz.heap.size := World.block_lt_of_cell? wz _ ka
          have lmb := hbi.up.mesh.low.2.1
          have ltv : ∀ q, tvz.ownBlock = some q → q < wz.heap.size := fun q hq => (hbi.up.mesh.row.lt q hq).2
          have lob := hbi.map.lt
          have hPp : 0 < P.length := by omega
          obtain ⟨R, hR⟩ : ∃ R, (((E.take k).map ghostV).reverse ++ (T.map realV).reverse) = R := ⟨_, rfl⟩
          have hRl : R.length = tn + k := by rw [← hR]; simp; have := HTL.out; have := HEN.out; omega
          have hRn : (((E.take (k + 1)).map ghostV).reverse ++ (T.map realV).reverse) = ((ex : Int), (ey : Int), -1) :: R := by rw [ghost_next hv, hR]
          rw [hR] at hbi
          have hdn := distinct_take (all_distinct' G.out HEP.out) (T.length + (k + 1))
          rw [take_both, hRn] at hdn
          obtain ⟨u5, hu5, hpe, hc5, hsu⟩ := new_box wz _ rfl [.int .i64 (ey : Int), .int .i64 (ex : Int)] 22
          obtain ⟨vb, hvb⟩ : ∃ vb, u5.heap.size = vb := ⟨_, rfl⟩
          obtain ⟨w5, hw5, hpv, hb5, hs5⟩ := new_box u5 _ rfl [.int .i64 (ex : Int), .int .i64 (ey : Int), .int .i64 (-1)] 46
          rw [hvb] at hpv
          have pe0 := hpe.c0; have pe1 := hpe.c1
          have hbe : Below wz.heap.size wz w5 := hc5.trans (hb5.mono hc5.size)
          have hb6 := (hbi.below hbe).drew
          have hbw6 : Below w.heap.size w w5.drew := (hbw.trans (hbe.mono hbw.size)).drew'
          have hmk := mkTri_any (ex : Int) (ey : Int) (-1) w5.drew hb6.up.mesh (by have := hb6.built.len; have := HTW.out; omega)
          rw [hb6.built.slot, hRl] at hmk
          have c6 : w5.drew.cell? ⟨gpm, 0, none⟩ = some (.pointer (some ⟨nmb, 0, none⟩)) := hb6.bm.c0
          have d0 : w5.drew.cell? ⟨vb, 0, none⟩ = some (.int .i64 (ex : Int)) := hpv.c0
          have d1 : w5.drew.cell? ⟨vb, 1, none⟩ = some (.int .i64 (ey : Int)) := hpv.c1
          have d2 : w5.drew.cell? ⟨vb, 2, none⟩ = some (.int .i64 (-1)) := hpv.c2
          have l5 : vb < w5.drew.heap.size := hpv.lt
          have lvb : wz.heap.size < vb := by omega
          have hg6 : w5.drew.heap[g]? = wq.heap[g]? := (hbe.block g lgz).trans hgz
          have hs6 : wq.heap.size ≤ w5.drew.heap.size := by show _ ≤ w5.heap.size; have := hbe.size; omega
          have lg6 : g < w5.drew.heap.size := by show _ < w5.heap.size; have := hbe.size; omega
          have HPX := Lib.hid (And.intro p2 p1)
          have HB6 := Lib.hid hb6; have HBW6 := Lib.hid hbw6; have HMK := Lib.hid hmk; have HPV := Lib.hid hpv.drew; have HRL := Lib.hid hRl; have HRN := Lib.hid hRn; have HDN := Lib.hid hdn
          have HG6 := Lib.hid hg6; have HS6 := Lib.hid hs6; have HTGZ := Lib.hid htg; have HGZ := Lib.hid hgz
          have kx1 : (0 : Int) ≤ (k : Int) := by omega
          have kx2 : (k : Int) < (en : Int) := by omega
          clear hv p1 p2 g1 g2 hR hRl hRn hdn hb6 hbw6 hmk hpv hb5 hbi hbw hs5 hsu hpe hc5 hbe hg6 hs6 hgz
          go_wp2
          clear ka kb pe0 pe1
          obtain ⟨SSs, hSSs⟩ : ∃ S : Array Bool → World → Prop, ∀ l w', S l w' ↔ ((w'.cell? ⟨gpm, 0, none⟩ = some (.pointer (some ⟨nmb, 0, none⟩))) ∧ (w'.cell? ⟨vb, 0, none⟩ = some (.int .i64 (ex : Int))) ∧ (w'.cell? ⟨vb, 1, none⟩ = some (.int .i64 (ey : Int))) ∧ (w'.cell? ⟨vb, 2, none⟩ = some (.int .i64 (-1)))) := ⟨_, fun _ _ => Iff.rfl⟩
          refine wp_region_noPanic ?_
          refine wp_region_G SSs 11 #[false, false, false, false, false, false, false, false, false, false, false] (by kernel_rfl) (by kernel_rfl) (by kernel_rfl) ((hSSs _ _).2 ⟨c6, d0, d1, d2⟩) (fun hCl hHeld => ?_)
          generalize w5.drew = w6 at *
          refine rG 0 ?_ ?_ ?_ ?_ ?_ ?_ hCl hHeld ?_;rotate_left 2
          ·simp only [gA,gZ]; exact rfl
          ·intro l w'; rw [hSSs, hSSs]
          ·rfl
          ·intro w' hA;clear hA;go_simp;try with_reducible rfl
          clear hCl hHeld
          intro hCl hHeld
          simp only [List.setIfInBounds_toArray, List.set_cons_zero] at hCl hHeld
          (try simp only [Act.put]);try simp only [sA,sZ,sS]
          refine rG 1 ?_ ?_ ?_ ?_ ?_ ?_ hCl hHeld ?_;rotate_left 2
          ·simp only [gA,gS,gZ]; exact rfl
          ·intro l w'; rw [hSSs, hSSs]
          ·rfl
          ·intro w' hA; obtain ⟨l, hl, hi, hSl⟩ := hA; have hSl := (hSSs _ _).1 hSl; obtain ⟨hz0, hz1, hz2, hz3⟩ := hSl; go_simp; try with_reducible rfl
          clear hCl hHeld
          intro hCl hHeld
          simp only [sA,sZ,sS] at hCl hHeld
          (try simp only [Act.put]);try simp only [sA,sZ,sS]
          refine rG 2 ?_ ?_ ?_ ?_ ?_ ?_ hCl hHeld ?_;rotate_left 2
          ·simp only [gA,gS,gZ]; exact rfl
          ·intro l w'; rw [hSSs, hSSs]
          ·rfl
          ·intro w' hA;clear hA;go_simp;try with_reducible rfl
          clear hCl hHeld
          intro hCl hHeld
          simp only [sA,sZ,sS] at hCl hHeld
          (try simp only [Act.put]);try simp only [sA,sZ,sS]
          refine rG 3 ?_ ?_ ?_ ?_ ?_ ?_ hCl hHeld ?_;rotate_left 2
          ·simp only [gA,gS,gZ]; exact rfl
          ·intro l w'; rw [hSSs, hSSs]
          ·rfl
          ·intro w' hA; obtain ⟨l, hl, hi, hSl⟩ := hA; have hSl := (hSSs _ _).1 hSl; obtain ⟨hz0, hz1, hz2, hz3⟩ := hSl; go_simp; try with_reducible rfl
          clear hCl hHeld
          intro hCl hHeld
          simp only [sA,sZ,sS] at hCl hHeld
          (try simp only [Act.put]);try simp only [sA,sZ,sS]
          refine rG 4 ?_ ?_ ?_ ?_ ?_ ?_ hCl hHeld ?_;rotate_left 2
          ·simp only [gA,gS,gZ]; exact rfl
          ·intro l w'; rw [hSSs, hSSs]
          ·rfl
          ·intro w' hA;clear hA;go_simp;try with_reducible rfl
          clear hCl hHeld
          intro hCl hHeld
          simp only [sA,sZ,sS] at hCl hHeld
          (try simp only [Act.put]);try simp only [sA,sZ,sS]
          refine rG 5 ?_ ?_ ?_ ?_ ?_ ?_ hCl hHeld ?_;rotate_left 2
          ·simp only [gA,gS,gZ]; exact rfl
          ·intro l w'; rw [hSSs, hSSs]
          ·rfl
          ·intro w' hA; obtain ⟨l, hl, hi, hSl⟩ := hA; have hSl := (hSSs _ _).1 hSl; obtain ⟨hz0, hz1, hz2, hz3⟩ := hSl; go_simp; try with_reducible rfl
          clear hCl hHeld
          intro hCl hHeld
          simp only [sA,sZ,sS] at hCl hHeld
          (try simp only [Act.put]);try simp only [sA,sZ,sS]
          refine rG 6 ?_ ?_ ?_ ?_ ?_ ?_ hCl hHeld ?_;rotate_left 2
          ·simp only [gA,gS,gZ]; exact rfl
          ·intro l w'; rw [hSSs, hSSs]
          ·rfl
          ·intro w' hA;clear hA;go_simp;try with_reducible rfl
          clear hCl hHeld
          intro hCl hHeld
          simp only [sA,sZ,sS] at hCl hHeld
          (try simp only [Act.put]);try simp only [sA,sZ,sS]
          refine rG 7 ?_ ?_ ?_ ?_ ?_ ?_ hCl hHeld ?_;rotate_left 2
          ·simp only [gA,gS,gZ]; exact rfl
          ·intro l w'; rw [hSSs, hSSs]
          ·rfl
          ·intro w' hA; obtain ⟨l, hl, hi, hSl⟩ := hA; have hSl := (hSSs _ _).1 hSl; obtain ⟨hz0, hz1, hz2, hz3⟩ := hSl; go_simp; try with_reducible rfl
          clear hCl hHeld
          intro hCl hHeld
          simp only [sA,sZ,sS] at hCl hHeld
          (try simp only [Act.put]);try simp only [sA,sZ,sS]
          refine rG 9 ?_ ?_ ?_ ?_ ?_ ?_ hCl hHeld ?_;rotate_left 2
          ·simp only [gA,gS,gZ]; exact rfl
          ·intro l w'; rw [hSSs, hSSs]
          ·rfl
          ·intro w' hA; obtain ⟨l, hl, hi, hSl⟩ := hA; have hSl := (hSSs _ _).1 hSl; obtain ⟨hz0, hz1, hz2, hz3⟩ := hSl; go_simp; try with_reducible rfl
          clear hCl hHeld
          intro hCl hHeld
          simp only [sA,sZ,sS] at hCl hHeld
          (try simp only [Act.put]);try simp only [sA,sZ,sS]
          clear hCl hHeld
          refine reg_callG 8 ?_ (by kernel_rfl) ?_ (fun K hK => ?_);rotate_left 1
          ·simp only [gA,gS,gZ]; exact rfl
          go_simp
          refine HMK.out.mono ?_
          rintro e w8 ⟨tv1, rfl, hm8, mu8⟩
          go_wp2_with fail
          clear c6 d0 d1 d2
          obtain ⟨m8, xo8, xm8, xf8, so8, sm8, sf8, sob8, bu8, j8⟩ := HB6.out.made hPp (by omega) hm8 mu8
          obtain ⟨kq1, kq2⟩ := mu8.keep vb l5 (by omega) (fun e => by have := ltv _ e; omega)
          obtain ⟨gq1, gq2⟩ := mu8.keep g lg6 (by omega) HTGZ.out
          have HGQ1 := Lib.hid gq1; have HGQ2 := Lib.hid gq2; clear gq1 gq2
          have ls8 := mu8.size
          have pv8 := HPV.out.same kq1
          have b68 : Below w.heap.size w w8 := HBW6.out.trans (HB6.out.up.mut mu8 HBW6.out.size)
          have hjn := join_any F (hRev R) opz (tn + k) (ex : Int) (ey : Int) (-1) (ob + 1) gpm w.heap.size ob fb w8 hm8 m8 (HF.out.same (b68.block fb HF.out.lt)) xo8 xm8 xf8 so8 sm8 sf8
           ⟨by have := HF.out.lt; have := hm8.low.1; omega, fun e => by have := HF.out.lt; have := (hm8.row.lt fb e).1; omega, by have := HF.out.lt; have := HB6.out.big; omega⟩ sob8
           (bu8.v (tn + k) _ (by rw [List.reverse_cons, List.getElem?_append_right (by simp [HRL.out])]; simp [HRL.out])) (by omega) (fun i => by have := HPX.out; have := HN9.out; have := HNN.out; unfold at3; split <;> omega)
           (fun t' i' e he => bu8.lives t' i' e (halfI_sub (i := 0) 3 he)) j8 (by have := HDN.out; rw [← HRL.out]; exact this) (fun i e he => HB6.out.built.fresh i e (by rw [HRL.out]; exact he))
          have c8 := xm8.c0; have e0 := pv8.c0; have e1 := pv8.c1; have e2 := pv8.c2
          have HJN := Lib.hid hjn; have HM8 := Lib.hid hm8; have MU8 := Lib.hid mu8; have HPV8 := Lib.hid pv8; have HO8 := Lib.hid kq2; have B68 := Lib.hid b68
          have l8 : vb < w8.heap.size := pv8.lt
          clear m8 xo8 xm8 xf8 so8 sm8 sf8 sob8 bu8 j8 kq1 kq2 pv8 b68 hjn hm8 mu8
          refine hK.out _ _ ((hSSs _ _).2 ⟨c8, e0, e1, e2⟩) ?_
          clear hK K
          (try simp only [Act.put]);try simp only [sA,sZ,sS]
          refine reg_callG 10 ?_ (by kernel_rfl) ?_ (fun K hK => ?_);rotate_left 1
          ·simp only [gA,gS,gZ]; exact rfl
          go_simp
          refine HJN.out.mono ?_
          rintro e w9 ⟨rfl, hj9⟩
          go_wp2_with fail
          clear c8 e0 e1 e2
          have pv9 : Box w9 vb [.int .i64 (ex : Int), .int .i64 (ey : Int), .int .i64 (-1)] := by
           obtain ⟨-, -, -, -, -, -, -, k9⟩ := hj9
           exact HPV8.out.same (k9.keep vb l8 (by omega) HO8.out (by omega))
          have hg9 : w9.heap[g]? = wq.heap[g]? := by
           obtain ⟨-, -, -, -, -, -, -, k9⟩ := hj9
           exact (k9.keep g (by omega) (by omega) HGQ2.out (by omega)).trans (HGQ1.out.trans HG6.out)
          have hs9 : wq.heap.size ≤ w9.heap.size := by
           obtain ⟨-, -, -, -, -, -, -, k9⟩ := hj9
           have := k9.size; have := HS6.out; omega
          have HG9 := Lib.hid hg9; have HS9 := Lib.hid hs9; have HTG9 := Lib.hid HGQ2.out; clear hg9 hs9
          obtain ⟨hbi9, b69⟩ := HB6.out.next hPp (by omega) HM8.out MU8.out (by rw [HRL.out]; exact hj9) HBW6.out.size
          obtain ⟨S9, op9, hb9⟩ := hbi9
          have c9 := hb9.bm.c0; have f0 := pv9.c0; have f1 := pv9.c1; have f2 := pv9.c2
          have HB9 := Lib.hid hb9; have HBW9 := Lib.hid (HBW6.out.trans b69)
          clear hj9 pv9 b69 hb9
          refine hK.out _ _ ((hSSs _ _).2 ⟨c9, f0, f1, f2⟩) ?_
          clear hK K
          (try simp only [Act.put]);try simp only [sA,sZ,sS]
          refine wpAnyG_done (by kernel_rfl) ?_ _
          refine NoPanic.normal ?_
          clear hSSs SSs
          have htw := HTW.out
          go_wp2
          refine ⟨⟨_, _, _, _, _, _, _, _, _, _, _, _, _, _, _, _, _, _, _, _, _, _, _, ⟨k + 1, by omega, by go_num, ⟨tv1, S9, op9, by rw [HRN.out]; exact HB9.out, HTG9.out⟩, HG9.out, HS9.out, HBW9.out⟩, rfl⟩, ?_⟩
          simp [intOf]; omega
         ·obtain rfl : en = k := by omega
          have htk : E.take en = E := by rw [← HEN.out]; exact List.take_length
          rw [htk] at hbi
          have hop := open_none G.out HEP.out hbi.joined
          subst hop
          have cbm := hbi.bm.c0
          go_wp2
          go_ret
          exact ⟨nmb, rfl, ⟨npb, npc, tvz, Sz, E, hbi.up.mesh, hbi.up.pts, HEP.out, hbi.built, hbi.joined⟩, hbw⟩
       ·obtain ⟨a, b, hab, rfl, hlf6, hlt⟩ := hlf.next HMEM.out hx
        have hen6 := hen w6 rfl rfl
        have hrow6 := hrow.turned ht6 (fun k hk => by have := hrow.lt k hk; omega)
        have hbq6 : Below rb wo w6 := Below.turned hbq ht6 (Nat.le_refl _)
        obtain ⟨w7, hw7, hpe, hb7, hs7⟩ := new_box w6 _ rfl [.int .i64 (a : Int), .int .i64 (b : Int)] 22
        obtain ⟨w8, hw8, hpn, hb8, hs8⟩ := new_box w7 _ rfl [.int .i64 (a : Int), .int .i64 (b : Int)] 22
        have pe0 := hpe.c0; have pe1 := hpe.c1
        have hs6 := ht6.size
        have hb68 : Below w6.heap.size w6 w8 := hb7.trans (hb8.mono hb7.size)
        have hrow8 := hrow6.below hb68
        have hit8 := hit6.below hb68
        have hbq8 : Below rb wo w8 := hbq6.trans (hb68.mono (by omega))
        have hs68 := hb68.size
        have hol := HOL.out; have hbn := HBN.out; have hrbw := HRB.out
        have hobl : ob < rb := by have := HBI2.out.map.lt; omega
        obtain ⟨v1, w9, hrun, rown, hgrow, hkept⟩ := run_append_row (P := Try.prog) w8 (rb + 1) 83 83 22 i0 (.agg #[.int .i64 0, .int .i64 0]) 2 16 (by kernel_rfl) HI.out HZ0.out HZ1.out HZ2.out rfl (noWordI2 _ _) _ E.length _ hrow8 ⟨w7.heap.size, 0, none⟩ 1 1 [.int .i64 (a : Int), .int .i64 (b : Int)] (by omega) rfl hpn.news (by intro u hu; simp at hu; rcases hu with rfl | rfl <;> rfl) (noWordI2 _ _) (by unfold maxLen; omega) (by omega) (by omega)
        have hit9 : IterB w9 rb ob (op.map encO) (rest.eraseIdx i) := hit8.block (hgrow.block rb (by omega) (fun e => by have := (hrow8.lt rb e.symm).1; omega)) (hgrow.block ob (by omega) (fun e => by have := (hrow8.lt ob e.symm).1; omega))
        have hbq9 : Below rb wo w9 := hbq8.grown hgrow (by omega) (fun k hk => by have := (hrow8.lt k hk).1; omega)
        have hs9 := hgrow.size
        have FIN := Lib.hid (And.intro rown (And.intro hit9 (And.intro hlf6 (And.intro hbq9 (show rb + 1 ≤ w9.heap.size by omega)))))
        have hlv : lenV v1 = E.length + 1 := rown.lenV
        have hlv0 : lenV bv = E.length := hrow.lenV
        have HLV := Lib.hid hlv; have HLV0 := Lib.hid hlv0
        clear hrow hit hlf hbq hrow6 hit6 hbq6 hb7 hb8 hb68 hrow8 hit8 hbq8 rown hgrow hkept hit9 hbq9 hs6 hs7 hs8 hs68 hs9 hlv hlv0 hol hbn hrbw hobl ht6 hen hx
        go_wp2_with (refine wpList_append_row rfl _ _ 83 rfl rfl rfl hrun ?_)
        have FI := FIN.out
        refine ⟨⟨_, _, _, _, _, _, _, _, _, _, ⟨_, E ++ [(a, b)], _, rfl, by rw [List.length_append, edgCells_app]; exact FI.1, FI.2.1, FI.2.2.1, FI.2.2.2.1, FI.2.2.2.2, by rw [List.length_append]; simp; omega⟩, rfl⟩, ?_⟩
        show op.length - lenV v1 < op.length - lenV bv
        rw [HLV.out, HLV0.out]; omega
 simp only [HAq.out, Act.put, sA,sZ,sS] at stq_1t
 have stq_1f : ∀ (w' : World) (nmb : Nat) (npb : Nat) (npc : Nat) (vtv : Value), Below w.heap.size w w' → Box w' (w.heap.size) [.map (some fb)] → Ats3 w' trb (0 * 3) (.int .i64 (a : Int)) (.int .i64 (b : Int)) (.int .i64 (c : Int)) → PtsC w' sb P → Below w1.heap.size w1 w' → MeshUp 62 49 w' w.heap.size nmb npb npc vtv P (newM (a : Int) (b : Int) (c : Int)) → WWq 3 #[true, true, true, true, true, true, true, true, true, true, true, true, true, true, true, true, true, false, false, false] ((((aq.put (some 33) (.tuple #[.pointer (some ⟨nmb, 0, none⟩), .bool true])).put (some 19) (.tuple #[.pointer (some ⟨nmb, 0, none⟩), .bool true])).put (some 34) (.pointer (some ⟨nmb, 0, none⟩))).put (some 35) (.bool true)) w' := by
  intro w13 nmb npb npc vtv hB_0 pf_0 qt_0 pp_0 hWq_0 hms_0
  rw [HWq.out, HAq.out]
  (try simp only [Act.put]);try simp only [sA,sZ,sS]
  refine reg_all1 17 ?_ (by kernel_rfl) ?_ (fun K hK => ?_)
  rotate_left 1
  ·simp only [gA,gS,gZ]; exact rfl
  ·go_simp
   have hgn : w1.heap.size ≤ w13.heap.size := hWq_0.size
   obtain ⟨w14, hww14, pm_0, hb14, -⟩ := new_box w13 _ rfl [.pointer none] 25
   rw [hww14]
   have hB_1 := hB_0.trans (hb14.mono hB_0.size)
   have pf_1 := pf_0.below hb14
   have qt_1 := qt_0.below hb14
   have pp_1 := pp_0.below hb14
   have hWq_1 := hWq_0.trans (hb14.mono hWq_0.size)
   have hms_1 := hms_0.below hb14
   clear hb14 hB_0 pf_0 qt_0 pp_0 hWq_0 hms_0
   refine hK.out _ _ ⟨qt_1.c0, qt_1.c1, qt_1.c2⟩ (fun hHeld => ?_)
   clear hK K
   (try simp only [Act.put]);try simp only [sA,sZ,sS]
   rw [← HWq.out]
   exact stq_1t _ nmb npb npc vtv w13.heap.size hB_1 pf_1 qt_1 pp_1 hWq_1 hms_1 pm_0 (by omega)
 try simp only [HAq.out, Act.put, sA,sZ,sS] at stq_1f
 have stq_0t : ∀ (w' : World) (gpm : Nat), Below w.heap.size w w' → Box w' (w.heap.size) [.map (some fb)] → Ats3 w' trb (0 * 3) (.int .i64 (a : Int)) (.int .i64 (b : Int)) (.int .i64 (c : Int)) → PtsC w' sb P → Below w1.heap.size w1 w' → Box w' gpm [.pointer none] → w1.heap.size ≤ gpm → WWq 6 #[true, true, true, true, true, true, true, true, true, true, true, true, true, false, false, false, false, true, false, false] (aq.put (some 7) (.pointer (some ⟨gpm, 0, none⟩))) w' := by
  intro w15 gpm hB_0 pf_0 qt_0 pp_0 hWq_0 pm_0 hgpm
  rw [HWq.out, HAq.out]
  (try simp only [Act.put]);try simp only [sA,sZ,sS]
  refine reg_all1 13 ?_ (by kernel_rfl) ?_ (fun K hK => ?_)
  rotate_left 1
  ·simp only [gA,gS,gZ]; exact rfl
  ·go_simp
   refine (New_up w.heap.size sb n sc P _ hB_0.size HNN.out HN0.out HN9.out HPS.out pp_0 a b c HZ.out).mono ?_
   rintro e w16 ⟨nmb, npb, npc, vtv, rfl, hms_0, hb16⟩
   have hB_1 := hB_0.trans (hb16.mono hB_0.size)
   have pf_1 := pf_0.below hb16
   have qt_1 := qt_0.below hb16
   have pp_1 := pp_0.below hb16
   have hWq_1 := hWq_0.trans (hb16.mono hWq_0.size)
   have pm_1 := pm_0.below hb16
   clear hb16 hB_0 pf_0 qt_0 pp_0 hWq_0 pm_0
   go_wp2_with fail
   refine hK.out _ _ ⟨qt_1.c0, qt_1.c1, qt_1.c2⟩ (fun hHeld => ?_)
   clear hK K
   (try simp only [Act.put]);try simp only [sA,sZ,sS]
   refine rU 14 _ _ ?_
   (try simp only [Act.put]);try simp only [sA,sZ,sS]
   refine rU 15 _ _ ?_
   (try simp only [Act.put]);try simp only [sA,sZ,sS]
   refine rU 16 _ _ ?_
   (try simp only [Act.put]);try simp only [sA,sZ,sS]
   rw [← HWq.out]
   exact stq_1t _ nmb npb npc vtv gpm hB_1 pf_1 qt_1 pp_1 hWq_1 hms_0 pm_1 (by omega)
 try simp only [HAq.out, Act.put, sA,sZ,sS] at stq_0t
 have stq_0f : ∀ (w' : World), Below w.heap.size w w' → Box w' (w.heap.size) [.map (some fb)] → Ats3 w' trb (0 * 3) (.int .i64 (a : Int)) (.int .i64 (b : Int)) (.int .i64 (c : Int)) → PtsC w' sb P → Below w1.heap.size w1 w' → WWq 7 #[true, true, true, true, true, true, true, true, true, true, true, true, true, false, false, false, false, false, false, false] aq w' := by
  intro w17 hB_0 pf_0 qt_0 pp_0 hWq_0
  rw [HWq.out, HAq.out]
  (try simp only [Act.put]);try simp only [sA,sZ,sS]
  refine reg_all2 13 17 ?_ ?_ (by kernel_rfl) ?_ ?_ (fun K hK => ?_) (fun K hK => ?_)
  rotate_left 2
  ·simp only [gA,gS,gZ]; exact rfl
  ·simp only [gA,gS,gZ]; exact rfl
  ·go_simp
   refine (New_up w.heap.size sb n sc P _ hB_0.size HNN.out HN0.out HN9.out HPS.out pp_0 a b c HZ.out).mono ?_
   rintro e w18 ⟨nmb, npb, npc, vtv, rfl, hms_0, hb18⟩
   have hB_1 := hB_0.trans (hb18.mono hB_0.size)
   have pf_1 := pf_0.below hb18
   have qt_1 := qt_0.below hb18
   have pp_1 := pp_0.below hb18
   have hWq_1 := hWq_0.trans (hb18.mono hWq_0.size)
   clear hb18 hB_0 pf_0 qt_0 pp_0 hWq_0
   go_wp2_with fail
   refine hK.out _ _ ⟨qt_1.c0, qt_1.c1, qt_1.c2⟩ (fun hHeld => ?_)
   clear hK K
   (try simp only [Act.put]);try simp only [sA,sZ,sS]
   refine rU 14 _ _ ?_
   (try simp only [Act.put]);try simp only [sA,sZ,sS]
   refine rU 15 _ _ ?_
   (try simp only [Act.put]);try simp only [sA,sZ,sS]
   refine rU 16 _ _ ?_
   (try simp only [Act.put]);try simp only [sA,sZ,sS]
   rw [← HWq.out]
   exact stq_1f _ nmb npb npc vtv hB_1 pf_1 qt_1 pp_1 hWq_1 hms_0
  ·go_simp
   have hgn : w1.heap.size ≤ w17.heap.size := hWq_0.size
   obtain ⟨w19, hww19, pm_0, hb19, -⟩ := new_box w17 _ rfl [.pointer none] 25
   rw [hww19]
   have hB_1 := hB_0.trans (hb19.mono hB_0.size)
   have pf_1 := pf_0.below hb19
   have qt_1 := qt_0.below hb19
   have pp_1 := pp_0.below hb19
   have hWq_1 := hWq_0.trans (hb19.mono hWq_0.size)
   clear hb19 hB_0 pf_0 qt_0 pp_0 hWq_0
   refine hK.out _ _ ⟨qt_1.c0, qt_1.c1, qt_1.c2⟩ (fun hHeld => ?_)
   clear hK K
   (try simp only [Act.put]);try simp only [sA,sZ,sS]
   rw [← HWq.out]
   exact stq_0t _ w17.heap.size hB_1 pf_1 qt_1 pp_1 hWq_1 pm_0 (by omega)
 exact stq_0f _ hB_1 pf_1 qt_1 pp_1 hWq_1
end Go.Proofs.Ytecnnpkpgbbfkaa
/- The statements' Grid: its points and triangles, place by place; bits; the map of faults. -/
namespace Go.MagM
open Go.RowKit
/-- Bit k of a number, as Go tells it. -/
def bitB (b : Int) (k : Nat) : Bool := bits .and .u32 (b / 2 ^ k) 1 == 1
theorem bits_are (q0 q1 q2 q3 : Bool) : ∃ n : Nat, n < 16 ∧ n.testBit 0 = q0 ∧ n.testBit 1 = q1 ∧ n.testBit 2 = q2 ∧ n.testBit 3 = q3 := by
 refine ⟨(if q0 then 1 else 0) + (if q1 then 2 else 0) + (if q2 then 4 else 0) + (if q3 then 8 else 0), ?_⟩
 cases q0 <;> cases q1 <;> cases q2 <;> cases q3 <;> decide
theorem bits_of (b : Int) : ∃ n : Nat, n < 16 ∧ ∀ k : Nat, k < 4 → bitB b k = n.testBit k := by
 obtain ⟨n, h, h0, h1, h2, h3⟩ := bits_are (bitB b 0) (bitB b 1) (bitB b 2) (bitB b 3)
 refine ⟨n, h, fun k hk => ?_⟩
 obtain rfl | rfl | rfl | rfl : k = 0 ∨ k = 1 ∨ k = 2 ∨ k = 3 := by omega
 ·exact h0.symm
 ·exact h1.symm
 ·exact h2.symm
 ·exact h3.symm
theorem noWordI3 (a b c : Int) : ∀ u ∈ [Value.int .i64 a, .int .i64 b, .int .i64 c], NoWord u := by
 intro u hu; simp at hu; rcases hu with rfl | rfl | rfl <;> exact NoWord.int _
theorem MeshO.low' {p e : TypeId} {w : World} {B B' mb pb pc : Nat} {tv : Value} {P : List (Int × Int)} {S : List TriM} (h : MeshO p e w B mb pb pc tv P S) (hB : B' ≤ B) : MeshO p e w B' mb pb pc tv P S :=
 ⟨h.box, owns_low h.prow hB, owns_low h.row hB, ⟨Nat.le_trans hB h.low.1, h.low.2⟩, h.apart, h.short⟩
theorem BuildEnd.low {p e : TypeId} {F : Int → Int → Bool} {B B' : Nat} {P : List (Int × Int)} {T : List (Nat × Nat × Nat)} {mb : Nat} {w : World} (h : BuildEnd p e F B P T mb w) (hB : B' ≤ B) : BuildEnd p e F B' P T mb w := by
 obtain ⟨pb, pc, tv, S, Bd, h1, h2, h3⟩ := h
 exact ⟨pb, pc, tv, S, Bd, h1.low' hB, Nat.le_trans hB h2, h3⟩
/-- Triples in a row, three cells each. -/
def tr3Cells : List (Nat × Nat × Nat) → List Value
 | [] => []
 | t :: r => .int .i64 (t.1 : Int) :: .int .i64 (t.2.1 : Int) :: .int .i64 (t.2.2 : Int) :: tr3Cells r
theorem tr3_app : ∀ l k, tr3Cells (l ++ k) = tr3Cells l ++ tr3Cells k
 | [], _ => rfl
 | e :: t, k => by simp [tr3Cells, tr3_app t k]
theorem tr3_get : ∀ (l : List (Nat × Nat × Nat)) (i : Nat) (e : Nat × Nat × Nat), l[i]? = some e → (tr3Cells l)[i * 3]? = some (.int .i64 (e.1 : Int)) ∧ (tr3Cells l)[i * 3 + 1]? = some (.int .i64 (e.2.1 : Int)) ∧ (tr3Cells l)[i * 3 + 2]? = some (.int .i64 (e.2.2 : Int))
 | [], _, _, h => by simp at h
 | x :: t, 0, e, h => by simp at h; subst h; exact ⟨rfl, rfl, rfl⟩
 | x :: t, i + 1, e, h => by
  have := tr3_get t i e (by simpa using h)
  rw [show (i + 1) * 3 = i * 3 + 1 + 1 + 1 by omega]
  simpa [tr3Cells] using this
theorem RowN.trIn {w : World} {base g : Nat} {e : TypeId} {n c : Nat} {T : List (Nat × Nat × Nat)} (h : RowN w base e 3 (.slice (some ⟨g, 0, none⟩) n c) n (tr3Cells T)) : TrIn w g (T.map realV) := by
 intro k x y z hk
 rw [List.getElem?_map] at hk
 cases ht : T[k]? with
 | none => rw [ht] at hk; cases hk
 | some t =>
  rw [ht] at hk
  simp only [Option.map_some, Option.some.injEq, realV, Prod.mk.injEq] at hk
  obtain ⟨rfl, rfl, rfl⟩ := hk
  obtain ⟨h0, h1, h2⟩ := tr3_get T k t ht
  have hc := h.cells (g := g) rfl
  exact ⟨hc _ _ h0, hc _ _ h1, hc _ _ h2⟩
theorem RowN.ptsC {w : World} {base g : Nat} {e : TypeId} {n c : Nat} {P : List (Int × Int)} (h : RowN w base e 2 (.slice (some ⟨g, 0, none⟩) n c) n (ptsCells P)) : PtsC w g P :=
 ⟨fun j u hj => by rw [Nat.zero_add]; exact h.cells (g := g) rfl j u hj⟩
end Go.MagM
namespace Go.Proofs.Ytecnnpkpgbbfkaa
open Go.RowKit Go.MagM Go.Maps
def gridAt (w h bits : Nat) : Bool := (List.range h).all fun y => (List.range w).all fun x =>
 ((gridT w h bits)[2 * (y * w + x)]? == some (if bits.testBit (y * w + x) then (y * (w + 1) + x, y * (w + 1) + (x + 1), (y + 1) * (w + 1) + (x + 1)) else (y * (w + 1) + (x + 1), (y + 1) * (w + 1) + x, y * (w + 1) + x))) &&
 ((gridT w h bits)[2 * (y * w + x) + 1]? == some (if bits.testBit (y * w + x) then ((y + 1) * (w + 1) + (x + 1), (y + 1) * (w + 1) + x, y * (w + 1) + x) else ((y + 1) * (w + 1) + x, y * (w + 1) + (x + 1), (y + 1) * (w + 1) + (x + 1))))
def turnOne (w h bits : Nat) : Bool := (gridT w h bits).all fun t => turnM (gridP w h) (t.1 : Int) (t.2.1 : Int) (t.2.2 : Int) == 1
def gridMore (w h bits : Nat) : Bool := gridAt w h bits && turnOne w h bits && (gridT w h bits).length == 2 * (w * h) && decide ((borderT (gridT w h bits)).length ≤ 8) && (borderT (gridT w h bits)).all (fun e => decide (e.1 < (gridP w h).length) && decide (e.2 < (gridP w h).length)) && decide (0 < (borderT (gridT w h bits)).length)
def allMore : Bool := [1, 2].all fun w => [1, 2].all fun h => (List.range 16).all fun bits => gridMore w h bits
set_option maxRecDepth 100000 in
theorem all_more : allMore = true := by decide +kernel
theorem grid_more {w h : Nat} (hw : w = 1 ∨ w = 2) (hh : h = 1 ∨ h = 2) {bits : Nat} (hb : bits < 16) : gridMore w h bits = true := by
 have := all_more
 unfold allMore at this
 rw [List.all_eq_true] at this
 have h1 := this w (by rcases hw with rfl | rfl <;> simp)
 rw [List.all_eq_true] at h1
 have h2 := h1 h (by rcases hh with rfl | rfl <;> simp)
 rw [List.all_eq_true] at h2
 exact h2 bits (List.mem_range.2 hb)
structure GridMore (w h bits : Nat) : Prop where
 even : ∀ y x, y < h → x < w → (gridT w h bits)[2 * (y * w + x)]? = some (if bits.testBit (y * w + x) then (y * (w + 1) + x, y * (w + 1) + (x + 1), (y + 1) * (w + 1) + (x + 1)) else (y * (w + 1) + (x + 1), (y + 1) * (w + 1) + x, y * (w + 1) + x))
 odd : ∀ y x, y < h → x < w → (gridT w h bits)[2 * (y * w + x) + 1]? = some (if bits.testBit (y * w + x) then ((y + 1) * (w + 1) + (x + 1), (y + 1) * (w + 1) + x, y * (w + 1) + x) else ((y + 1) * (w + 1) + x, y * (w + 1) + (x + 1), (y + 1) * (w + 1) + (x + 1)))
 one : ∀ t, t ∈ gridT w h bits → turnM (gridP w h) (t.1 : Int) (t.2.1 : Int) (t.2.2 : Int) = 1
 len : (gridT w h bits).length = 2 * (w * h)
 few : (borderT (gridT w h bits)).length ≤ 8
 ends : ∀ e, e ∈ borderT (gridT w h bits) → e.1 < (gridP w h).length ∧ e.2 < (gridP w h).length
 some_ : 0 < (borderT (gridT w h bits)).length
theorem grid_has {w h : Nat} (hw : w = 1 ∨ w = 2) (hh : h = 1 ∨ h = 2) {bits : Nat} (hb : bits < 16) : GridMore w h bits := by
 have s := grid_more hw hh hb
 unfold gridMore gridAt turnOne at s
 simp only [Bool.and_eq_true, decide_eq_true_eq, List.all_eq_true, beq_iff_eq, List.mem_range] at s
 obtain ⟨⟨⟨⟨⟨s1, s2⟩, s3⟩, s4⟩, s5⟩, s6⟩ := s
 exact ⟨fun y x hy hx => (s1 y hy x hx).1, fun y x hy hx => (s1 y hy x hx).2, s2, s3, s4, s5, s6⟩
theorem gridP_at {w h : Nat} (hw : w = 1 ∨ w = 2) (hh : h = 1 ∨ h = 2) {x y : Nat} (hx : x ≤ w) (hy : y ≤ h) : (gridP w h)[y * (w + 1) + x]? = some (2 * (x : Int), 2 * (y : Int)) := by
 have hx' : x = 0 ∨ x = 1 ∨ x = 2 := by omega
 have hy' : y = 0 ∨ y = 1 ∨ y = 2 := by omega
 rcases hw with rfl | rfl <;> rcases hh with rfl | rfl <;> rcases hx' with rfl | rfl | rfl <;> rcases hy' with rfl | rfl | rfl <;> first | rfl | omega
theorem grid_inPs {w h : Nat} (hw : w = 1 ∨ w = 2) (hh : h = 1 ∨ h = 2) : InPs (gridP w h) := by
 intro p hp
 have := (grid_ok hw hh (bits := 0) (by omega)).small p hp
 unfold InP; omega
theorem infoE3 : (Try.prog.info? 46).map (fun i => (i.zero, i.size, i.bytes)) = some (some (.agg #[.int .i64 0, .int .i64 0, .int .i64 0]), 3, 24) := by kernel_rfl
/-- A fault more. -/
theorem fault_store {w : World} {fb : Nat} {F : Int → Int → Bool} (h : FaultMap Try.prog 22 w fb F) {a b : Int} (ha : -1000000 ≤ a ∧ a ≤ 1000000) (hb : -1000000 ≤ b ∧ b ≤ 1000000) :
  ∃ w' F', (Instr.mapUpdate 64 (.map (some fb)) (.agg #[.int .i64 a, .int .i64 b]) (.int .i64 1)).run Try.prog w = .ok () w' ∧ Turned w w' fb ∧ FaultMap Try.prog 22 w' fb F' := by
 obtain ⟨m, h1, h2, h3⟩ := h
 obtain ⟨l, hl⟩ := key2_of ha hb
 obtain ⟨w', m', hr, ht, hm, hc⟩ := h1.store keyed2 Try.underlying64 hl (.int .i64 1)
 rcases hc with ⟨hno, rfl⟩ | ⟨j, u, hj, rfl⟩
 ·refine ⟨w', fun c d => F c d || decide (c = a ∧ d = b), hr, ht, _, hm, fun e he => ?_, fun c d hF => ?_⟩
  ·rcases List.mem_append.1 he with he | he
   ·obtain ⟨c, d, e1, hF⟩ := h2 e he
    exact ⟨c, d, e1, by show (F c d || _) = true; rw [hF]; rfl⟩
   ·simp only [List.mem_cons, List.not_mem_nil, or_false] at he
    exact ⟨a, b, he, by simp⟩
  ·simp only [Bool.or_eq_true, decide_eq_true_eq] at hF
   rcases hF with hF | ⟨rfl, rfl⟩
   ·exact List.mem_append_left _ (h3 c d hF)
   ·exact List.mem_append_right _ (by simp [key2])
 ·obtain ⟨c, d, e1, hF⟩ := h2 _ (List.mem_of_getElem? hj)
  simp only [Prod.mk.injEq] at e1
  obtain ⟨e1, rfl⟩ := e1
  have hset : m.set j (.agg #[.int .i64 a, .int .i64 b], .int .i64 1) = m := by
   refine List.ext_getElem? fun i => ?_
   rw [List.getElem?_set]
   split
   ·rename_i hij; subst hij
    rw [if_pos (List.getElem?_eq_some_iff.1 hj).1, hj]
   ·rfl
  rw [hset] at hm
  exact ⟨w', F, hr, ht, m, hm, h2, h3⟩
theorem fault_new {w : World} {fb : Nat} (h : MapB Try.prog 22 w fb []) : FaultMap Try.prog 22 w fb (fun _ _ => false) :=
 ⟨[], h, fun e he => (by cases he), fun a b hF => (by cases hF)⟩
set_option maxRecDepth 100000 in
set_option maxHeartbeats 4000000 in
/-- The number of a place in a grid. -/
theorem gridNo_any (g W : Nat) (x y : Nat) (w : World) (hW : W ≤ 2) (hx : x ≤ 2) (hy : y ≤ 2) (hg : w.cell? ⟨g, 0, none⟩ = some (.int .i64 (W : Int))) (r : Int) (hr : (y : Int) * ((W : Int) + 1) + (x : Int) = r) :
  Calls Try.prog 17 #[.int .i64 (x : Int), .int .i64 (y : Int), .pointer (some ⟨g, 0, none⟩)] w fun e w' => e = .returned (.int .i64 r) ∧ w = w' := by
 obtain ⟨p, hp⟩ : ∃ p, (y : Int) * ((W : Int) + 1) = p := ⟨_, rfl⟩
 have hp1 : 0 ≤ p ∧ p ≤ 6 := by
  have hy' : y = 0 ∨ y = 1 ∨ y = 2 := by omega
  rcases hy' with rfl | rfl | rfl <;> omega
 rw [hp] at hr
 have h1 : IntKind.i64.wrap ((W : Int) + 1) = (W : Int) + 1 := by rw [IntKind.wrap_i64]; omega
 have h2 : IntKind.i64.wrap p = p := by rw [IntKind.wrap_i64]; omega
 have h3 : IntKind.i64.wrap (p + (x : Int)) = r := by rw [IntKind.wrap_i64]; omega
 clear hr hp1
 go_enter Try.func17, Try.ntmps17
 go_wp2
 go_ret
 exact ⟨rfl, rfl⟩
end Go.Proofs.Ytecnnpkpgbbfkaa
/- The statements' Grid, 1 by 1. -/
namespace Go.Proofs.Ytecnnpkpgbbfkaa
open Go.RowKit Go.MagM
set_option maxRecDepth 100000 in
set_option maxHeartbeats 16000000 in
theorem Grid11_any (w0 h0 b f : Int) (bn : Nat) (hbn : bn < 16) (e1 : bits .and .i64 w0 1 = 0) (e2 : bits .and .i64 h0 1 = 0) (hbit : ∀ k : Nat, k < 4 → bitB b k = bn.testBit k) (w : World) :
  Calls Try.prog 6 #[.int .i64 w0, .int .i64 h0, .int .u32 b, .int .u32 f] w fun e w' => ∃ (mb g c : Nat) (F : Int → Int → Bool), e = .returned (.tuple #[.pointer (some ⟨mb, 0, none⟩), .slice (some ⟨g, 0, none⟩) 2 c]) ∧ BuildEnd 62 49 F w.heap.size (gridP 1 1) (gridT 1 1 bn) mb w' ∧ TrIn w' g ((gridT 1 1 bn).map realV) ∧ w.heap.size ≤ g ∧ Below w.heap.size w w' := by
 have ok := grid_ok (w := 1) (h := 1) (by omega) (by omega) hbn
 have hm := grid_has (w := 1) (h := 1) (by omega) (by omega) hbn
 have hps : InPs (gridP 1 1) := grid_inPs (by omega) (by omega)
 have OK := Lib.hid ok; have HM := Lib.hid hm; have HPS := Lib.hid hps; have HBIT := Lib.hid hbit
 clear ok hm hps hbit
 obtain ⟨i0, hi, hz0, hz1, hz2⟩ := info_parts infoPt
 have HI := Lib.hid hi; have HZ0 := Lib.hid hz0; have HZ1 := Lib.hid hz1; have HZ2 := Lib.hid hz2
 obtain ⟨j0, hj, hy0, hy1, hy2⟩ := info_parts infoE3
 have HJ := Lib.hid hj; have HY0 := Lib.hid hy0; have HY1 := Lib.hid hy1; have HY2 := Lib.hid hy2
 clear hi hz0 hz1 hz2 hj hy0 hy1 hy2
 obtain ⟨w1, hw1, pw0, hB1, hs1⟩ := new_box w _ rfl [.int .i64 w0] 3
 have sc := pw0.c 0 _ rfl; have sf := pw0.f 0 _ rfl
 obtain ⟨w2, hw2⟩ : ∃ w2, w1.setCell ⟨w.heap.size, 0, none⟩ (.int .i64 1) = w2 := ⟨_, rfl⟩
 have pw2 : Box w2 w.heap.size [.int .i64 1] := by rw [← hw2]; exact pw0.set 0 (.int .i64 1)
 have hB2 : Below w.heap.size w w2 := by rw [← hw2]; exact hB1.setCell (p := ⟨w.heap.size, 0, none⟩) (by simp only []; omega) _
 have hz2 : w.heap.size + 1 ≤ w2.heap.size := by have := pw2.lt; omega
 have PW2 := Lib.hid pw2; have HB2 := Lib.hid hB2; have HZS := Lib.hid hz2
 clear pw0 hB1 hs1 pw2 hB2 hz2
 go_enter Try.func6, Try.ntmps6
 go_wp2
 clear sc sf hw1 hw2
 go_loopw [10, 11, 12, 35] (fun pv _ _ iv wr => ∃ (y : Nat) (vv : Value), y ≤ 2 ∧ iv = .int .i64 (y : Int) ∧ vv = pv ∧ RowN wr (w.heap.size + 1) 62 2 vv (y * 2) (ptsCells ((gridP 1 1).take (y * 2))) ∧ Box wr w.heap.size [.int .i64 1] ∧ Below w.heap.size w wr ∧ w.heap.size + 1 ≤ wr.heap.size) (fun _ _ _ iv _ => 2 - (intOf iv).toNat)
 case atStart => exact ⟨0, _, Nat.zero_le _, rfl, rfl, RowN.nil _ _ _ _, PW2.out, HB2.out, HZS.out⟩
 case round =>
  obtain ⟨y, vv, hy, rfl, rfl, hrow, hbx, hbw, hsz⟩ := hrel
  by_cases hlt : y < 2
  ·have hyd : decide ((y : Int) < 2) = true := decide_eq_true (by omega)
   have cw := hbx.c 0 _ rfl
   have HROW := Lib.hid hrow; have HBX := Lib.hid hbx; have HBW := Lib.hid hbw; have HSZ := Lib.hid hsz
   clear hrow hbx hbw hsz
   go_wp2
   clear cw
   go_loopw [10, 12, 40] (fun pv _ iv wr => ∃ (x : Nat) (vv : Value), x ≤ 2 ∧ iv = .int .i64 (x : Int) ∧ vv = pv ∧ RowN wr (w.heap.size + 1) 62 2 vv (y * 2 + x) (ptsCells ((gridP 1 1).take (y * 2 + x))) ∧ Box wr w.heap.size [.int .i64 1] ∧ Below w.heap.size w wr ∧ w.heap.size + 1 ≤ wr.heap.size) (fun _ _ iv _ => 2 - (intOf iv).toNat)
   case atStart => exact ⟨0, _, Nat.zero_le _, rfl, rfl, HROW.out, HBX.out, HBW.out, HSZ.out⟩
   case round =>
    obtain ⟨x, vv, hx, rfl, rfl, hrow, hbx, hbw, hsz⟩ := hrel
    by_cases hlx : x < 2
    ·have hel := gridP_at (w := 1) (h := 1) (by omega) (by omega) (x := x) (y := y) (by omega) (by omega)
     have hx2 : IntKind.i64.wrap (2 * (x : Int)) = 2 * (x : Int) := by rw [IntKind.wrap_i64]; omega
     have hy2 : IntKind.i64.wrap (2 * (y : Int)) = 2 * (y : Int) := by rw [IntKind.wrap_i64]; omega
     obtain ⟨w3, hw3, hpn, hb3, hs3⟩ := new_box wr _ rfl [.int .i64 (2 * (x : Int)), .int .i64 (2 * (y : Int))] 62
     have hrow3 := hrow.below hb3
     have hbx3 := hbx.below hb3
     have hbw3 := hbw.trans (hb3.mono hbw.size)
     obtain ⟨v1, w4, hrun, rown, hgrow, hkept⟩ := run_append_row (P := Try.prog) w3 (w.heap.size + 1) 40 40 62 i0 (.agg #[.int .i64 0, .int .i64 0]) 2 16 (by kernel_rfl) HI.out HZ0.out HZ1.out HZ2.out rfl (noWordI2 _ _) _ (y * 2 + x) _ hrow3 ⟨wr.heap.size, 0, none⟩ 1 1 [.int .i64 (2 * (x : Int)), .int .i64 (2 * (y : Int))] (by omega) rfl hpn.news (by intro u hu; simp at hu; rcases hu with rfl | rfl <;> rfl) (noWordI2 _ _) (by unfold maxLen; omega) (by omega) (by omega)
     have hne : ∀ k, vv.ownBlock = some k → w.heap.size + 1 ≤ k := fun k hk => (hrow3.lt k hk).1
     have hbx4 := hbx3.grown hgrow (fun e => by have := hne _ e; omega) hbx3.lt
     have hbw4 : Below w.heap.size w w4 := hbw3.grown hgrow (by omega) (fun k hk => by have := hne k hk; omega)
     have htk : ptsCells ((gridP 1 1).take (y * 2 + x)) ++ [.int .i64 (2 * (x : Int)), .int .i64 (2 * (y : Int))] = ptsCells ((gridP 1 1).take (y * 2 + (x + 1))) := by
      rw [← Nat.add_assoc, List.take_add_one, hel, ptsCells_app]; rfl
     rw [htk] at rown
     have FIN := Lib.hid (And.intro rown (And.intro hbx4 (And.intro hbw4 (show w.heap.size + 1 ≤ w4.heap.size by have := hgrow.size; omega))))
     clear hrow hbx hbw hsz hpn hb3 hs3 hrow3 hbx3 hbw3 rown hgrow hkept hne hbx4 hbw4 htk hel
     go_wp2_with (refine wpList_append_row rfl _ _ 40 rfl rfl rfl hrun ?_)
     have FI := FIN.out
     exact ⟨⟨x + 1, _, by omega, by go_num, rfl, FI.1, FI.2.1, FI.2.2.1, FI.2.2.2⟩, by simp [intOf]; omega⟩
    ·obtain rfl : x = 2 := by omega
     have FIN := Lib.hid (And.intro hrow (And.intro hbx (And.intro hbw hsz)))
     clear hrow hbx hbw hsz
     go_wp2
     have FI := FIN.out
     have hrow := FI.1
     rw [show y * 2 + 2 = (y + 1) * 2 by omega] at hrow
     exact ⟨⟨y + 1, _, by omega, by go_num, rfl, hrow, FI.2.1, FI.2.2.1, FI.2.2.2⟩, by simp [intOf]; omega⟩
  ·obtain rfl : y = 2 := by omega
   have hpt : (gridP 1 1).take (2 * 2) = gridP 1 1 := rfl
   rw [hpt] at hrow
   obtain ⟨gp, gpc, hvv⟩ : ∃ g c, vv = .slice (some ⟨g, 0, none⟩) 4 c := by
    rcases hrow.2 with ⟨h1, h2⟩ | ⟨g, cap, cur, h1, h2, h3⟩
    ·omega
    ·exact ⟨g, cap, h1⟩
   subst hvv
   have hpl := hrow.lt gp rfl
   obtain ⟨w5, hw5⟩ : ∃ w5, w5 = wr := ⟨_, rfl⟩
   rw [← hw5] at hrow hbx hbw hsz hpl
   rw [← hw5]
   have HROW := Lib.hid hrow; have HBX := Lib.hid hbx; have HBW := Lib.hid hbw; have HSZ := Lib.hid hsz; have HPL := Lib.hid hpl
   clear hrow hbx hbw hsz hpl hw5
   go_wp2
   go_loopw [13, 15, 16, 17, 18, 19, 20, 21, 55] (fun tv kv _ _ _ _ _ _ iv wr => ∃ (y : Nat) (vv : Value), y ≤ 1 ∧ iv = .int .i64 (y : Int) ∧ kv = .int .i64 ((y * 1 : Nat) : Int) ∧ vv = tv ∧ RowN wr w5.heap.size 46 3 vv (2 * (y * 1)) (tr3Cells ((gridT 1 1 bn).take (2 * (y * 1)))) ∧ Below w5.heap.size w5 wr) (fun _ _ _ _ _ _ _ _ iv _ => 1 - (intOf iv).toNat)
   case atStart => exact ⟨0, _, Nat.zero_le _, rfl, rfl, rfl, RowN.nil _ _ _ _, Below.refl _ _⟩
   case round =>
    obtain ⟨y, vv, hy, rfl, rfl, rfl, hrow, hbw⟩ := hrel
    by_cases hlt : y < 1
    ·have hyd : decide ((y : Int) < 1) = true := decide_eq_true (by omega)
     have cw := (HBX.out.below hbw).c 0 _ rfl
     have HRW := Lib.hid hrow; have HBZ := Lib.hid hbw
     clear hrow hbw
     go_wp2
     clear cw
     go_loopw [13, 15, 17, 18, 19, 20, 21, 59] (fun tv kv _ _ _ _ _ iv wr => ∃ (x : Nat) (vv : Value), x ≤ 1 ∧ iv = .int .i64 (x : Int) ∧ kv = .int .i64 ((y * 1 + x : Nat) : Int) ∧ vv = tv ∧ RowN wr w5.heap.size 46 3 vv (2 * (y * 1 + x)) (tr3Cells ((gridT 1 1 bn).take (2 * (y * 1 + x)))) ∧ Below w5.heap.size w5 wr) (fun _ _ _ _ _ _ _ iv _ => 1 - (intOf iv).toNat)
     case atStart => exact ⟨0, _, Nat.zero_le _, rfl, by rw [Nat.add_zero], rfl, HRW.out, HBZ.out⟩
     case round =>
      obtain ⟨x, vv, hx, rfl, rfl, rfl, hrow, hbw⟩ := hrel
      by_cases hlx : x < 1
      ·have cw := (HBX.out.below hbw).c 0 _ rfl
       have hev := HM.out.even y x hlt hlx
       have hod := HM.out.odd y x hlt hlx
       have hbt := HBIT.out (y * 1 + x) (by omega)
       obtain ⟨q, hq⟩ : ∃ q, bn.testBit (y * 1 + x) = q := ⟨_, rfl⟩
       rw [hq] at hev hod hbt
       have a0 := gridNo_any w.heap.size 1 x y wr (by omega) (by omega) (by omega) cw ((y : Int) * 2 + (x : Int)) (by omega)
       have a1 := gridNo_any w.heap.size 1 (x + 1) y wr (by omega) (by omega) (by omega) cw ((y : Int) * 2 + ((x : Int) + 1)) (by omega)
       have a2 := gridNo_any w.heap.size 1 (x + 1) (y + 1) wr (by omega) (by omega) (by omega) cw (((y : Int) + 1) * 2 + ((x : Int) + 1)) (by omega)
       have a3 := gridNo_any w.heap.size 1 x (y + 1) wr (by omega) (by omega) (by omega) cw (((y : Int) + 1) * 2 + (x : Int)) (by omega)
       rw [show (((x + 1 : Nat)) : Int) = (x : Int) + 1 by omega] at a1 a2
       rw [show (((y + 1 : Nat)) : Int) = (y : Int) + 1 by omega] at a2 a3
       obtain ⟨ca, hca⟩ : ∃ c : Int, (y : Int) * 2 + (x : Int) = c := ⟨_, rfl⟩
       obtain ⟨cb, hcb⟩ : ∃ c : Int, (y : Int) * 2 + ((x : Int) + 1) = c := ⟨_, rfl⟩
       obtain ⟨cc, hcc⟩ : ∃ c : Int, ((y : Int) + 1) * 2 + ((x : Int) + 1) = c := ⟨_, rfl⟩
       obtain ⟨cd, hcd⟩ : ∃ c : Int, ((y : Int) + 1) * 2 + (x : Int) = c := ⟨_, rfl⟩
       rw [hca] at a0; rw [hcb] at a1; rw [hcc] at a2; rw [hcd] at a3
       have C0 := Lib.hid a0; have C1 := Lib.hid a1; have C2 := Lib.hid a2; have C3 := Lib.hid a3
       have HEV := Lib.hid hev; have HOD := Lib.hid hod; have HBT := Lib.hid hbt; have HRW2 := Lib.hid hrow; have HBZ2 := Lib.hid hbw
       have HCA := Lib.hid hca; have HCB := Lib.hid hcb; have HCC := Lib.hid hcc; have HCD := Lib.hid hcd
       obtain ⟨kk, hkk⟩ : ∃ kk : Nat, y * 1 + x = kk := ⟨_, rfl⟩
       have hkk4 : kk < 4 := by omega
       rw [hkk] at hbt
       unfold bitB at hbt
       have na : (((y * 2 + x : Nat)) : Int) = ca := by omega
       have nb : (((y * 2 + (x + 1) : Nat)) : Int) = cb := by omega
       have nc : ((((y + 1) * 2 + (x + 1) : Nat)) : Int) = cc := by omega
       have nd : ((((y + 1) * 2 + x : Nat)) : Int) = cd := by omega
       have HKK := Lib.hid hkk
       rw [hkk]
       have HNA := Lib.hid (And.intro na (And.intro nb (And.intro nc nd)))
       clear a0 a1 a2 a3 hev hod hrow hbw hca hcb hcc hcd cw hkk na nb nc nd hq
       cases q
       ·have hev' : (gridT 1 1 bn)[2 * (y * 1 + x)]? = some (y * 2 + (x + 1), (y + 1) * 2 + x, y * 2 + x) := HEV.out
        have hod' : (gridT 1 1 bn)[2 * (y * 1 + x) + 1]? = some ((y + 1) * 2 + x, y * 2 + (x + 1), (y + 1) * 2 + (x + 1)) := HOD.out
        have HEV' := Lib.hid hev'; have HOD' := Lib.hid hod'
        clear hev' hod'
        go_wp2_with fail
        refine C0.out.mono ?_
        rintro e w6 ⟨rfl, rfl⟩
        go_wp2_with fail
        refine C1.out.mono ?_
        rintro e w6 ⟨rfl, rfl⟩
        go_wp2_with fail
        refine C2.out.mono ?_
        rintro e w6 ⟨rfl, rfl⟩
        go_wp2_with fail
        refine C3.out.mono ?_
        rintro e w6 ⟨rfl, rfl⟩
        obtain ⟨w6, hw6, hpn, hb6, hs6⟩ := new_box wr _ rfl [.int .i64 cb, .int .i64 cd, .int .i64 ca, .int .i64 cd, .int .i64 cb, .int .i64 cc] 46
        have hrow6 := HRW2.out.below hb6
        have hbw6 := HBZ2.out.trans (hb6.mono HBZ2.out.size)
        obtain ⟨v1, w7, hrun, rown, hgrow, hkept⟩ := run_append_row (P := Try.prog) w6 w5.heap.size 26 26 46 j0 (.agg #[.int .i64 0, .int .i64 0, .int .i64 0]) 3 24 (by kernel_rfl) HJ.out HY0.out HY1.out HY2.out rfl (noWordI3 _ _ _) _ (2 * (y * 1 + x)) _ hrow6 ⟨wr.heap.size, 0, none⟩ 2 2 [.int .i64 cb, .int .i64 cd, .int .i64 ca, .int .i64 cd, .int .i64 cb, .int .i64 cc] (by omega) rfl hpn.news (by intro u hu; simp at hu; rcases hu with rfl | rfl | rfl | rfl | rfl | rfl <;> rfl) (noWordI6 _ _ _ _ _ _) (by unfold maxLen; omega) (by omega) (by have := hbw6.size; omega)
        have hbw7 : Below w5.heap.size w5 w7 := hbw6.grown hgrow (by have := hbw6.size; omega) (fun k hk => (hrow6.lt k hk).1)
        have htk : tr3Cells ((gridT 1 1 bn).take (2 * (y * 1 + x))) ++ [.int .i64 cb, .int .i64 cd, .int .i64 ca, .int .i64 cd, .int .i64 cb, .int .i64 cc] = tr3Cells ((gridT 1 1 bn).take (2 * (y * 1 + (x + 1)))) := by
         obtain ⟨na, nb, nc, nd⟩ := HNA.out
         rw [show 2 * (y * 1 + (x + 1)) = 2 * (y * 1 + x) + 1 + 1 by omega, List.take_add_one, List.take_add_one, HEV'.out, HOD'.out, tr3_app, tr3_app, List.append_assoc]
         simp only [Option.toList_some, tr3Cells, na, nb, nc, nd, List.cons_append, List.nil_append]
        rw [htk, show 2 * (y * 1 + x) + 2 = 2 * (y * 1 + (x + 1)) by omega] at rown
        have FIN := Lib.hid (And.intro rown hbw7)
        clear hpn hb6 hs6 hrow6 hbw6 rown hgrow hkept hbw7 htk
        go_wp2_with (refine wpList_append_row rfl _ _ 26 rfl rfl rfl hrun ?_)
        have hkk := HKK.out
        refine ⟨⟨_, _, _, _, _, _, _, _, _, _, _, _, _, _, _, _, _, _, _, _, _, _, _, _, _, _, _, _, _, _, _, _, _, _, _, _, _, _, _, _, _, _, _, _, _, _, _, _, _, _, _, _, _, _, _, _, _, _, _, _, ?_, rfl⟩, by simp [intOf]; omega⟩
        exact ⟨x + 1, _, by omega, by go_num, congrArg (Value.int .i64) (by omega), rfl, FIN.out.1, FIN.out.2⟩
       ·have hev' : (gridT 1 1 bn)[2 * (y * 1 + x)]? = some (y * 2 + x, y * 2 + (x + 1), (y + 1) * 2 + (x + 1)) := HEV.out
        have hod' : (gridT 1 1 bn)[2 * (y * 1 + x) + 1]? = some ((y + 1) * 2 + (x + 1), (y + 1) * 2 + x, y * 2 + x) := HOD.out
        have HEV' := Lib.hid hev'; have HOD' := Lib.hid hod'
        clear hev' hod'
        go_wp2_with fail
        refine C0.out.mono ?_
        rintro e w6 ⟨rfl, rfl⟩
        go_wp2_with fail
        refine C1.out.mono ?_
        rintro e w6 ⟨rfl, rfl⟩
        go_wp2_with fail
        refine C2.out.mono ?_
        rintro e w6 ⟨rfl, rfl⟩
        go_wp2_with fail
        refine C3.out.mono ?_
        rintro e w6 ⟨rfl, rfl⟩
        obtain ⟨w6, hw6, hpn, hb6, hs6⟩ := new_box wr _ rfl [.int .i64 ca, .int .i64 cb, .int .i64 cc, .int .i64 cc, .int .i64 cd, .int .i64 ca] 46
        have hrow6 := HRW2.out.below hb6
        have hbw6 := HBZ2.out.trans (hb6.mono HBZ2.out.size)
        obtain ⟨v1, w7, hrun, rown, hgrow, hkept⟩ := run_append_row (P := Try.prog) w6 w5.heap.size 26 26 46 j0 (.agg #[.int .i64 0, .int .i64 0, .int .i64 0]) 3 24 (by kernel_rfl) HJ.out HY0.out HY1.out HY2.out rfl (noWordI3 _ _ _) _ (2 * (y * 1 + x)) _ hrow6 ⟨wr.heap.size, 0, none⟩ 2 2 [.int .i64 ca, .int .i64 cb, .int .i64 cc, .int .i64 cc, .int .i64 cd, .int .i64 ca] (by omega) rfl hpn.news (by intro u hu; simp at hu; rcases hu with rfl | rfl | rfl | rfl | rfl | rfl <;> rfl) (noWordI6 _ _ _ _ _ _) (by unfold maxLen; omega) (by omega) (by have := hbw6.size; omega)
        have hbw7 : Below w5.heap.size w5 w7 := hbw6.grown hgrow (by have := hbw6.size; omega) (fun k hk => (hrow6.lt k hk).1)
        have htk : tr3Cells ((gridT 1 1 bn).take (2 * (y * 1 + x))) ++ [.int .i64 ca, .int .i64 cb, .int .i64 cc, .int .i64 cc, .int .i64 cd, .int .i64 ca] = tr3Cells ((gridT 1 1 bn).take (2 * (y * 1 + (x + 1)))) := by
         obtain ⟨na, nb, nc, nd⟩ := HNA.out
         rw [show 2 * (y * 1 + (x + 1)) = 2 * (y * 1 + x) + 1 + 1 by omega, List.take_add_one, List.take_add_one, HEV'.out, HOD'.out, tr3_app, tr3_app, List.append_assoc]
         simp only [Option.toList_some, tr3Cells, na, nb, nc, nd, List.cons_append, List.nil_append]
        rw [htk, show 2 * (y * 1 + x) + 2 = 2 * (y * 1 + (x + 1)) by omega] at rown
        have FIN := Lib.hid (And.intro rown hbw7)
        clear hpn hb6 hs6 hrow6 hbw6 rown hgrow hkept hbw7 htk
        go_wp2_with (refine wpList_append_row rfl _ _ 26 rfl rfl rfl hrun ?_)
        have hkk := HKK.out
        refine ⟨⟨_, _, _, _, _, _, _, _, _, _, _, _, _, _, _, _, _, _, _, _, _, _, _, _, _, _, _, _, _, _, _, _, _, _, _, _, _, _, _, _, _, _, _, _, _, _, _, _, _, _, _, _, _, _, _, _, _, _, _, _, ?_, rfl⟩, by simp [intOf]; omega⟩
        exact ⟨x + 1, _, by omega, by go_num, congrArg (Value.int .i64) (by omega), rfl, FIN.out.1, FIN.out.2⟩
      ·obtain rfl : x = 1 := by omega
       have FIN := Lib.hid (And.intro hrow hbw)
       clear hrow hbw
       go_wp2
       have hrow := FIN.out.1
       rw [show y * 1 + 1 = (y + 1) * 1 by omega] at hrow
       exact ⟨⟨y + 1, _, by omega, by go_num, congrArg (Value.int .i64) (by omega), rfl, hrow, FIN.out.2⟩, by simp [intOf]; omega⟩
    ·obtain rfl : y = 1 := by omega
     have hgl := HM.out.len
     have htt : (gridT 1 1 bn).take (2 * (1 * 1)) = gridT 1 1 bn := List.take_of_length_le (by rw [hgl]; omega)
     rw [htt] at hrow
     obtain ⟨gt, gtc, hvv⟩ : ∃ g c, vv = .slice (some ⟨g, 0, none⟩) 2 c := by
      rcases hrow.2 with ⟨h1, h2⟩ | ⟨g, cap, cur, h1, h2, h3⟩
      ·omega
      ·exact ⟨g, cap, h1⟩
     subst hvv
     have hgtl := hrow.lt gt rfl
     obtain ⟨w7, hw7⟩ : ∃ w7, w7 = wr := ⟨_, rfl⟩
     rw [← hw7] at hrow hbw hgtl
     rw [← hw7]
     clear hw7
     obtain ⟨fb, hfb⟩ : ∃ fb, w7.heap.size = fb := ⟨_, rfl⟩
     obtain ⟨hmk, hmp⟩ := run_new_map (P := Try.prog) w7 64 22
     obtain ⟨w8, hw8⟩ : ∃ w8, w7.alloc (.map #[] 0) = w8 := ⟨_, rfl⟩
     rw [hw8, hfb] at hmk hmp
     have hb8 : Below fb w7 w8 := by rw [← hw8, ← hfb]; exact (Below.refl _ _).alloc (Nat.le_refl _) _
     have htr := hrow.trIn
     have HRWT := Lib.hid hrow; have HBT := Lib.hid hbw; have HTR := Lib.hid htr; have HGTL := Lib.hid hgtl; have HFB := Lib.hid hfb; have HMP := Lib.hid (fault_new hmp); have HB8 := Lib.hid hb8
     clear hrow hbw htr hgtl hfb hmp hb8 hw8
     go_wp2
     clear hmk
     go_loopw [23, 25, 26, 116] (fun nv _ _ iv wr => ∃ j : Nat, j ≤ 2 ∧ iv = .int .i64 (j : Int) ∧ nv = .int .i64 ((3 * j : Nat) : Int) ∧ (∃ F, FaultMap Try.prog 22 wr fb F) ∧ Below fb w7 wr) (fun _ _ _ iv _ => 2 - (intOf iv).toNat)
     case atStart => exact ⟨0, Nat.zero_le _, rfl, rfl, ⟨_, HMP.out⟩, HB8.out⟩
     case round =>
      obtain ⟨j, hj, rfl, rfl, ⟨F, hF⟩, hbw⟩ := hrel
      by_cases hlt : j < 2
      ·have hyd : decide ((j : Int) < 2) = true := decide_eq_true (by omega)
       obtain ⟨⟨x, y, z⟩, hv⟩ : ∃ v, (gridT 1 1 bn)[j]? = some v := ⟨_, List.getElem?_eq_getElem (by have := HM.out.len; omega)⟩
       obtain ⟨px, py, pz⟩ := OK.out.pts _ (List.mem_of_getElem? hv)
       have hpl6 := OK.out.many
       simp only [] at px py pz
       have htk := HTR.out j (x : Int) (y : Int) (z : Int) (by rw [List.getElem?_map, hv]; rfl)
       have hfb := HFB.out
       have l1 := World.block_lt_of_cell? w7 _ htk.1
       simp only [] at l1
       have ka := (hbw.cell (p := ⟨gt, j * 3, none⟩) (by show gt < fb; omega)).trans htk.1
       have kb := (hbw.cell (p := ⟨gt, j * 3 + 1, none⟩) (by show gt < fb; omega)).trans htk.2.1
       have kc := (hbw.cell (p := ⟨gt, j * 3 + 2, none⟩) (by show gt < fb; omega)).trans htk.2.2
       obtain ⟨w9, hw9, hpv, hb9, hs9⟩ := new_box wr _ rfl [.int .i64 (x : Int), .int .i64 (y : Int), .int .i64 (z : Int)] 46
       have hF9 := hF.same (hb9.block fb hF.lt)
       have hfl := hF.lt
       have hbw9 : Below fb w7 w9 := hbw.trans (hb9.mono (by omega))
       obtain ⟨tb, htb⟩ : ∃ tb, wr.heap.size = tb := ⟨_, rfl⟩
       have htf : fb < tb := by omega
       rw [htb] at hpv
       have HF9 := Lib.hid hF9; have HBW9 := Lib.hid hbw9; have HPV := Lib.hid hpv
       have hxyz : x < 10 ∧ y < 10 ∧ z < 10 := by
        have : (gridP 1 1).length = 4 := rfl
        omega
       clear hv px py pz htk hfb l1 hb9 hs9 hF9 hbw9 hpv hF hbw hfl hpl6
       go_wp2
       clear ka kb kc hw9 htb
       go_loopw [23, 26, 120] (fun nv _ iv wr => ∃ i : Nat, i ≤ 3 ∧ iv = .int .i64 (i : Int) ∧ nv = .int .i64 ((3 * j + i : Nat) : Int) ∧ (∃ F, FaultMap Try.prog 22 wr fb F) ∧ Box wr tb [.int .i64 (x : Int), .int .i64 (y : Int), .int .i64 (z : Int)] ∧ Below fb w7 wr) (fun _ _ iv _ => 3 - (intOf iv).toNat)
       case atStart => exact ⟨0, Nat.zero_le _, rfl, rfl, ⟨_, HF9.out⟩, HPV.out, HBW9.out⟩
       case round =>
        obtain ⟨i, hi, rfl, rfl, ⟨F2, hF2⟩, hbx, hbw⟩ := hrel
        by_cases hli : i < 3
        ·obtain ⟨nn, hnn⟩ : ∃ nn : Nat, 3 * j + i = nn := ⟨_, rfl⟩
         have hnn24 : nn < 24 := by omega
         have HNN := Lib.hid hnn
         rw [hnn]
         clear hnn
         have HF2 := Lib.hid hF2; have HBX2 := Lib.hid hbx; have HBW2 := Lib.hid hbw
         clear hF2 hbx hbw
         obtain ⟨q, hq⟩ : ∃ q : Bool, (bits .and .u32 (f / 2 ^ (nn % 32)) 1 == 1) = q := ⟨_, rfl⟩
         have hfb2 := HF2.out.lt
         have hd3 := (HF2.out.same (w' := wr.drew) rfl)
         have hx3 := HBX2.out.drew
         have hw3 := HBW2.out.drew'
         have HF3 := Lib.hid hd3; have HBX3 := Lib.hid hx3; have HBW3 := Lib.hid hw3
         clear hd3 hx3 hw3
         cases q
         ·go_wp2
          have hnn := HNN.out
          exact ⟨⟨i + 1, by omega, by go_num, congrArg (Value.int .i64) (by omega), ⟨_, HF2.out⟩, HBX2.out, HBW2.out⟩, by simp [intOf]; omega⟩
         ·obtain rfl | rfl | rfl : i = 0 ∨ i = 1 ∨ i = 2 := by omega
          ·obtain ⟨mn, hmn⟩ : ∃ mn : Int, (if (y : Int) < (x : Int) then (y : Int) else (x : Int)) = mn := ⟨_, rfl⟩
           obtain ⟨mx, hmx⟩ : ∃ mx : Int, (if (y : Int) > (x : Int) then (y : Int) else (x : Int)) = mx := ⟨_, rfl⟩
           have bmn : -1000000 ≤ mn ∧ mn ≤ 1000000 := by rw [← hmn]; split <;> omega
           have bmx : -1000000 ≤ mx ∧ mx ≤ 1000000 := by rw [← hmx]; split <;> omega
           have hmin : ∀ w : World, Sem.run Try.prog (Builtin.min_ #[3, 3] 3 #[.int .i64 (x : Int), .int .i64 (y : Int)]) w = Result.ok (Value.int .i64 mn) w := fun w => by rw [run_min_int2, hmn]
           have hmax : ∀ w : World, Sem.run Try.prog (Builtin.max_ #[3, 3] 3 #[.int .i64 (x : Int), .int .i64 (y : Int)]) w = Result.ok (Value.int .i64 mx) w := fun w => by rw [run_max_int2, hmx]
           have hwk : (IntKind.i64.wrap 1).tmod 3 = 1 := by decide
           obtain ⟨wm, F4, hup, hT4, hF4⟩ := fault_store HF3.out bmn bmx
           have hx0 := HBX3.out.c 0 _ rfl; have hx1 := HBX3.out.c 1 _ rfl
           have hbx4 := HBX3.out.turned hT4 (by omega)
           have hbw4 : Below fb w7 wm := Below.turned HBW3.out hT4 (Nat.le_refl _)
           have hy0 := hbx4.c 0 _ rfl; have hy1 := hbx4.c 1 _ rfl
           have FIN := Lib.hid (And.intro hF4 (And.intro hbx4 hbw4))
           clear hmn hmx bmn bmx hT4 hF4 hbx4 hbw4
           go_wp2_with fail
           obtain ⟨SSs, hSSs⟩ : ∃ S : Array Bool → World → Prop, ∀ l w', S l w' ↔ ((w'.cell? ⟨tb, 0, none⟩ = some (.int .i64 (x : Int))) ∧ (w'.cell? ⟨tb, 1, none⟩ = some (.int .i64 (y : Int)))) := ⟨_, fun _ _ => Iff.rfl⟩
           refine wp_region_noPanic ?_
           refine wp_region_G SSs 21 #[false, false, false, false, false, false, false, false, false, false, false, false, false, false, false, false, false, false, false, false, false] (by kernel_rfl) (by kernel_rfl) (by kernel_rfl) ((hSSs _ _).2 ⟨hx0, hx1⟩) (fun hCl hHeld => ?_)
           generalize wr.drew = wd at *
           refine rG 0 ?_ ?_ ?_ ?_ ?_ ?_ hCl hHeld ?_;rotate_left 2
           ·simp only [gA,gZ]; exact rfl
           ·intro l w'; rw [hSSs, hSSs]
           ·rfl
           ·intro w' hA;clear hA;go_simp;try with_reducible rfl
           clear hCl hHeld
           intro hCl hHeld
           simp only [List.setIfInBounds_toArray, List.set_cons_zero] at hCl hHeld
           (try simp only [Act.put]);try simp only [sA,sZ,sS]
           refine rG 1 ?_ ?_ ?_ ?_ ?_ ?_ hCl hHeld ?_;rotate_left 2
           ·simp only [gA,gS,gZ]; exact rfl
           ·intro l w'; rw [hSSs, hSSs]
           ·rfl
           ·intro w' hA;clear hA;go_simp;try with_reducible rfl
           clear hCl hHeld
           intro hCl hHeld
           simp only [sA,sZ,sS] at hCl hHeld
           (try simp only [Act.put]);try simp only [sA,sZ,sS]
           refine rG 2 ?_ ?_ ?_ ?_ ?_ ?_ hCl hHeld ?_;rotate_left 2
           ·simp only [gA,gS,gZ]; exact rfl
           ·intro l w'; rw [hSSs, hSSs]
           ·rfl
           ·intro w' hA;clear hA;go_simp;try with_reducible rfl
           clear hCl hHeld
           intro hCl hHeld
           simp only [sA,sZ,sS] at hCl hHeld
           (try simp only [Act.put]);try simp only [sA,sZ,sS]
           refine rG 3 ?_ ?_ ?_ ?_ ?_ ?_ hCl hHeld ?_;rotate_left 2
           ·simp only [gA,gS,gZ]; exact rfl
           ·intro l w'; rw [hSSs, hSSs]
           ·rfl
           ·intro w' hA; obtain ⟨l, hl, hi, hSl⟩ := hA; have hSl := (hSSs _ _).1 hSl; obtain ⟨hz0, hz1⟩ := hSl; go_simp; try with_reducible rfl
           clear hCl hHeld
           intro hCl hHeld
           simp only [sA,sZ,sS] at hCl hHeld
           (try simp only [Act.put]);try simp only [sA,sZ,sS]
           refine rG 4 ?_ ?_ ?_ ?_ ?_ ?_ hCl hHeld ?_;rotate_left 2
           ·simp only [gA,gS,gZ]; exact rfl
           ·intro l w'; rw [hSSs, hSSs]
           ·rfl
           ·intro w' hA;clear hA;go_simp;try with_reducible rfl
           clear hCl hHeld
           intro hCl hHeld
           simp only [sA,sZ,sS] at hCl hHeld
           (try simp only [Act.put]);try simp only [sA,sZ,sS]
           refine rG 5 ?_ ?_ ?_ ?_ ?_ ?_ hCl hHeld ?_;rotate_left 2
           ·simp only [gA,gS,gZ]; exact rfl
           ·intro l w'; rw [hSSs, hSSs]
           ·rfl
           ·intro w' hA;clear hA;go_simp;try with_reducible rfl
           clear hCl hHeld
           intro hCl hHeld
           simp only [sA,sZ,sS] at hCl hHeld
           (try simp only [Act.put]);try simp only [sA,sZ,sS]
           refine rG 6 ?_ ?_ ?_ ?_ ?_ ?_ hCl hHeld ?_;rotate_left 2
           ·simp only [gA,gS,gZ]; exact rfl
           ·intro l w'; rw [hSSs, hSSs]
           ·rfl
           ·intro w' hA;clear hA;go_simp;try with_reducible rfl
           clear hCl hHeld
           intro hCl hHeld
           simp only [sA,sZ,sS] at hCl hHeld
           (try simp only [Act.put]);try simp only [sA,sZ,sS]
           refine rG 7 ?_ ?_ ?_ ?_ ?_ ?_ hCl hHeld ?_;rotate_left 2
           ·simp only [gA,gS,gZ]; exact rfl
           ·intro l w'; rw [hSSs, hSSs]
           ·rfl
           ·intro w' hA;clear hA;go_simp;try with_reducible rfl
           clear hCl hHeld
           intro hCl hHeld
           simp only [sA,sZ,sS] at hCl hHeld
           (try simp only [Act.put]);try simp only [sA,sZ,sS]
           refine rG 8 ?_ ?_ ?_ ?_ ?_ ?_ hCl hHeld ?_;rotate_left 2
           ·simp only [gA,gS,gZ]; exact rfl
           ·intro l w'; rw [hSSs, hSSs]
           ·rfl
           ·intro w' hA; obtain ⟨l, hl, hi, hSl⟩ := hA; have hSl := (hSSs _ _).1 hSl; obtain ⟨hz0, hz1⟩ := hSl; go_simp; try with_reducible rfl
           clear hCl hHeld
           intro hCl hHeld
           simp only [sA,sZ,sS] at hCl hHeld
           (try simp only [Act.put]);try simp only [sA,sZ,sS]
           refine rG 9 ?_ ?_ ?_ ?_ ?_ ?_ hCl hHeld ?_;rotate_left 2
           ·simp only [gA,gS,gZ]; exact rfl
           ·intro l w'; rw [hSSs, hSSs]
           ·rfl
           ·intro w' hA;clear hA;go_simp;try with_reducible rfl
           clear hCl hHeld
           intro hCl hHeld
           simp only [sA,sZ,sS] at hCl hHeld
           (try simp only [Act.put]);try simp only [sA,sZ,sS]
           refine rG 10 ?_ ?_ ?_ ?_ ?_ ?_ hCl hHeld ?_;rotate_left 2
           ·simp only [gA,gS,gZ]; exact rfl
           ·intro l w'; rw [hSSs, hSSs]
           ·rfl
           ·intro w' hA;clear hA;go_simp;try with_reducible rfl
           clear hCl hHeld
           intro hCl hHeld
           simp only [sA,sZ,sS] at hCl hHeld
           (try simp only [Act.put]);try simp only [sA,sZ,sS]
           refine rG 11 ?_ ?_ ?_ ?_ ?_ ?_ hCl hHeld ?_;rotate_left 2
           ·simp only [gA,gS,gZ]; exact rfl
           ·intro l w'; rw [hSSs, hSSs]
           ·rfl
           ·intro w' hA;clear hA;go_simp;try with_reducible rfl
           clear hCl hHeld
           intro hCl hHeld
           simp only [sA,sZ,sS] at hCl hHeld
           (try simp only [Act.put]);try simp only [sA,sZ,sS]
           refine rG 12 ?_ ?_ ?_ ?_ ?_ ?_ hCl hHeld ?_;rotate_left 2
           ·simp only [gA,gS,gZ]; exact rfl
           ·intro l w'; rw [hSSs, hSSs]
           ·rfl
           ·intro w' hA; obtain ⟨l, hl, hi, hSl⟩ := hA; have hSl := (hSSs _ _).1 hSl; obtain ⟨hz0, hz1⟩ := hSl; go_simp; try with_reducible rfl
           clear hCl hHeld
           intro hCl hHeld
           simp only [sA,sZ,sS] at hCl hHeld
           (try simp only [Act.put]);try simp only [sA,sZ,sS]
           refine rG 13 ?_ ?_ ?_ ?_ ?_ ?_ hCl hHeld ?_;rotate_left 2
           ·simp only [gA,gS,gZ]; exact rfl
           ·intro l w'; rw [hSSs, hSSs]
           ·rfl
           ·intro w' hA;clear hA;go_simp;try with_reducible rfl
           clear hCl hHeld
           intro hCl hHeld
           simp only [sA,sZ,sS] at hCl hHeld
           (try simp only [Act.put]);try simp only [sA,sZ,sS]
           refine rG 14 ?_ ?_ ?_ ?_ ?_ ?_ hCl hHeld ?_;rotate_left 2
           ·simp only [gA,gS,gZ]; exact rfl
           ·intro l w'; rw [hSSs, hSSs]
           ·rfl
           ·intro w' hA;clear hA;go_simp;try with_reducible rfl
           clear hCl hHeld
           intro hCl hHeld
           simp only [sA,sZ,sS] at hCl hHeld
           (try simp only [Act.put]);try simp only [sA,sZ,sS]
           refine rG 15 ?_ ?_ ?_ ?_ ?_ ?_ hCl hHeld ?_;rotate_left 2
           ·simp only [gA,gS,gZ]; exact rfl
           ·intro l w'; rw [hSSs, hSSs]
           ·rfl
           ·intro w' hA;clear hA;go_simp;try with_reducible rfl
           clear hCl hHeld
           intro hCl hHeld
           simp only [sA,sZ,sS] at hCl hHeld
           (try simp only [Act.put]);try simp only [sA,sZ,sS]
           refine rG 16 ?_ ?_ ?_ ?_ ?_ ?_ hCl hHeld ?_;rotate_left 2
           ·simp only [gA,gS,gZ]; exact rfl
           ·intro l w'; rw [hSSs, hSSs]
           ·rfl
           ·intro w' hA;clear hA;go_simp;try with_reducible rfl
           clear hCl hHeld
           intro hCl hHeld
           simp only [sA,sZ,sS] at hCl hHeld
           (try simp only [Act.put]);try simp only [sA,sZ,sS]
           refine rG 17 ?_ ?_ ?_ ?_ ?_ ?_ hCl hHeld ?_;rotate_left 2
           ·simp only [gA,gS,gZ]; exact rfl
           ·intro l w'; rw [hSSs, hSSs]
           ·rfl
           ·intro w' hA; obtain ⟨l, hl, hi, hSl⟩ := hA; have hSl := (hSSs _ _).1 hSl; obtain ⟨hz0, hz1⟩ := hSl; go_simp; try with_reducible rfl
           clear hCl hHeld
           intro hCl hHeld
           simp only [sA,sZ,sS] at hCl hHeld
           (try simp only [Act.put]);try simp only [sA,sZ,sS]
           refine rG 18 ?_ ?_ ?_ ?_ ?_ ?_ hCl hHeld ?_;rotate_left 2
           ·simp only [gA,gS,gZ]; exact rfl
           ·intro l w'; rw [hSSs, hSSs]
           ·rfl
           ·intro w' hA;clear hA;go_simp;try with_reducible rfl
           clear hCl hHeld
           intro hCl hHeld
           simp only [sA,sZ,sS] at hCl hHeld
           (try simp only [Act.put]);try simp only [sA,sZ,sS]
           refine rG 19 ?_ ?_ ?_ ?_ ?_ ?_ hCl hHeld ?_;rotate_left 2
           ·simp only [gA,gS,gZ]; exact rfl
           ·intro l w'; rw [hSSs, hSSs]
           ·rfl
           ·intro w' hA;clear hA;go_simp;try with_reducible rfl
           clear hCl hHeld
           intro hCl hHeld
           simp only [sA,sZ,sS] at hCl hHeld
           (try simp only [Act.put]);try simp only [sA,sZ,sS]
           clear hCl hHeld
           refine reg_callG 20 ?_ (by kernel_rfl) ?_ (fun K hK => ?_);rotate_left 1
           ·simp only [gA,gS,gZ]; exact rfl
           go_simp
           clear hx0 hx1 hup
           refine hK.out _ _ ((hSSs _ _).2 ⟨hy0, hy1⟩) ?_
           clear hK K
           (try simp only [Act.put]);try simp only [sA,sZ,sS]
           refine wpAnyG_done (by kernel_rfl) ?_ _
           refine NoPanic.normal ?_
           clear hSSs SSs
           go_wp2
           have hnn := HNN.out
           refine ⟨⟨_, _, _, _, _, _, _, _, _, _, _, _, _, _, _, _, _, _, _, _, _, _, _, _, _, _, _, _, _, _, _, _, _, _, ?_, rfl⟩, by simp [intOf]⟩
           exact ⟨0 + 1, by omega, by go_num, congrArg (Value.int .i64) (by omega), ⟨_, FIN.out.1⟩, FIN.out.2.1, FIN.out.2.2⟩
          ·obtain ⟨mn, hmn⟩ : ∃ mn : Int, (if (z : Int) < (y : Int) then (z : Int) else (y : Int)) = mn := ⟨_, rfl⟩
           obtain ⟨mx, hmx⟩ : ∃ mx : Int, (if (z : Int) > (y : Int) then (z : Int) else (y : Int)) = mx := ⟨_, rfl⟩
           have bmn : -1000000 ≤ mn ∧ mn ≤ 1000000 := by rw [← hmn]; split <;> omega
           have bmx : -1000000 ≤ mx ∧ mx ≤ 1000000 := by rw [← hmx]; split <;> omega
           have hmin : ∀ w : World, Sem.run Try.prog (Builtin.min_ #[3, 3] 3 #[.int .i64 (y : Int), .int .i64 (z : Int)]) w = Result.ok (Value.int .i64 mn) w := fun w => by rw [run_min_int2, hmn]
           have hmax : ∀ w : World, Sem.run Try.prog (Builtin.max_ #[3, 3] 3 #[.int .i64 (y : Int), .int .i64 (z : Int)]) w = Result.ok (Value.int .i64 mx) w := fun w => by rw [run_max_int2, hmx]
           have hwk : (IntKind.i64.wrap 2).tmod 3 = 2 := by decide
           obtain ⟨wm, F4, hup, hT4, hF4⟩ := fault_store HF3.out bmn bmx
           have hx0 := HBX3.out.c 1 _ rfl; have hx1 := HBX3.out.c 2 _ rfl
           have hbx4 := HBX3.out.turned hT4 (by omega)
           have hbw4 : Below fb w7 wm := Below.turned HBW3.out hT4 (Nat.le_refl _)
           have hy0 := hbx4.c 1 _ rfl; have hy1 := hbx4.c 2 _ rfl
           have FIN := Lib.hid (And.intro hF4 (And.intro hbx4 hbw4))
           clear hmn hmx bmn bmx hT4 hF4 hbx4 hbw4
           go_wp2_with fail
           obtain ⟨SSs, hSSs⟩ : ∃ S : Array Bool → World → Prop, ∀ l w', S l w' ↔ ((w'.cell? ⟨tb, 1, none⟩ = some (.int .i64 (y : Int))) ∧ (w'.cell? ⟨tb, 2, none⟩ = some (.int .i64 (z : Int)))) := ⟨_, fun _ _ => Iff.rfl⟩
           refine wp_region_noPanic ?_
           refine wp_region_G SSs 21 #[false, false, false, false, false, false, false, false, false, false, false, false, false, false, false, false, false, false, false, false, false] (by kernel_rfl) (by kernel_rfl) (by kernel_rfl) ((hSSs _ _).2 ⟨hx0, hx1⟩) (fun hCl hHeld => ?_)
           generalize wr.drew = wd at *
           refine rG 0 ?_ ?_ ?_ ?_ ?_ ?_ hCl hHeld ?_;rotate_left 2
           ·simp only [gA,gZ]; exact rfl
           ·intro l w'; rw [hSSs, hSSs]
           ·rfl
           ·intro w' hA;clear hA;go_simp;try with_reducible rfl
           clear hCl hHeld
           intro hCl hHeld
           simp only [List.setIfInBounds_toArray, List.set_cons_zero] at hCl hHeld
           (try simp only [Act.put]);try simp only [sA,sZ,sS]
           refine rG 1 ?_ ?_ ?_ ?_ ?_ ?_ hCl hHeld ?_;rotate_left 2
           ·simp only [gA,gS,gZ]; exact rfl
           ·intro l w'; rw [hSSs, hSSs]
           ·rfl
           ·intro w' hA;clear hA;go_simp;try with_reducible rfl
           clear hCl hHeld
           intro hCl hHeld
           simp only [sA,sZ,sS] at hCl hHeld
           (try simp only [Act.put]);try simp only [sA,sZ,sS]
           refine rG 2 ?_ ?_ ?_ ?_ ?_ ?_ hCl hHeld ?_;rotate_left 2
           ·simp only [gA,gS,gZ]; exact rfl
           ·intro l w'; rw [hSSs, hSSs]
           ·rfl
           ·intro w' hA;clear hA;go_simp;try with_reducible rfl
           clear hCl hHeld
           intro hCl hHeld
           simp only [sA,sZ,sS] at hCl hHeld
           (try simp only [Act.put]);try simp only [sA,sZ,sS]
           refine rG 3 ?_ ?_ ?_ ?_ ?_ ?_ hCl hHeld ?_;rotate_left 2
           ·simp only [gA,gS,gZ]; exact rfl
           ·intro l w'; rw [hSSs, hSSs]
           ·rfl
           ·intro w' hA; obtain ⟨l, hl, hi, hSl⟩ := hA; have hSl := (hSSs _ _).1 hSl; obtain ⟨hz0, hz1⟩ := hSl; go_simp; try with_reducible rfl
           clear hCl hHeld
           intro hCl hHeld
           simp only [sA,sZ,sS] at hCl hHeld
           (try simp only [Act.put]);try simp only [sA,sZ,sS]
           refine rG 4 ?_ ?_ ?_ ?_ ?_ ?_ hCl hHeld ?_;rotate_left 2
           ·simp only [gA,gS,gZ]; exact rfl
           ·intro l w'; rw [hSSs, hSSs]
           ·rfl
           ·intro w' hA;clear hA;go_simp;try with_reducible rfl
           clear hCl hHeld
           intro hCl hHeld
           simp only [sA,sZ,sS] at hCl hHeld
           (try simp only [Act.put]);try simp only [sA,sZ,sS]
           refine rG 5 ?_ ?_ ?_ ?_ ?_ ?_ hCl hHeld ?_;rotate_left 2
           ·simp only [gA,gS,gZ]; exact rfl
           ·intro l w'; rw [hSSs, hSSs]
           ·rfl
           ·intro w' hA;clear hA;go_simp;try with_reducible rfl
           clear hCl hHeld
           intro hCl hHeld
           simp only [sA,sZ,sS] at hCl hHeld
           (try simp only [Act.put]);try simp only [sA,sZ,sS]
           refine rG 6 ?_ ?_ ?_ ?_ ?_ ?_ hCl hHeld ?_;rotate_left 2
           ·simp only [gA,gS,gZ]; exact rfl
           ·intro l w'; rw [hSSs, hSSs]
           ·rfl
           ·intro w' hA;clear hA;go_simp;try with_reducible rfl
           clear hCl hHeld
           intro hCl hHeld
           simp only [sA,sZ,sS] at hCl hHeld
           (try simp only [Act.put]);try simp only [sA,sZ,sS]
           refine rG 7 ?_ ?_ ?_ ?_ ?_ ?_ hCl hHeld ?_;rotate_left 2
           ·simp only [gA,gS,gZ]; exact rfl
           ·intro l w'; rw [hSSs, hSSs]
           ·rfl
           ·intro w' hA;clear hA;go_simp;try with_reducible rfl
           clear hCl hHeld
           intro hCl hHeld
           simp only [sA,sZ,sS] at hCl hHeld
           (try simp only [Act.put]);try simp only [sA,sZ,sS]
           refine rG 8 ?_ ?_ ?_ ?_ ?_ ?_ hCl hHeld ?_;rotate_left 2
           ·simp only [gA,gS,gZ]; exact rfl
           ·intro l w'; rw [hSSs, hSSs]
           ·rfl
           ·intro w' hA; obtain ⟨l, hl, hi, hSl⟩ := hA; have hSl := (hSSs _ _).1 hSl; obtain ⟨hz0, hz1⟩ := hSl; go_simp; try with_reducible rfl
           clear hCl hHeld
           intro hCl hHeld
           simp only [sA,sZ,sS] at hCl hHeld
           (try simp only [Act.put]);try simp only [sA,sZ,sS]
           refine rG 9 ?_ ?_ ?_ ?_ ?_ ?_ hCl hHeld ?_;rotate_left 2
           ·simp only [gA,gS,gZ]; exact rfl
           ·intro l w'; rw [hSSs, hSSs]
           ·rfl
           ·intro w' hA;clear hA;go_simp;try with_reducible rfl
           clear hCl hHeld
           intro hCl hHeld
           simp only [sA,sZ,sS] at hCl hHeld
           (try simp only [Act.put]);try simp only [sA,sZ,sS]
           refine rG 10 ?_ ?_ ?_ ?_ ?_ ?_ hCl hHeld ?_;rotate_left 2
           ·simp only [gA,gS,gZ]; exact rfl
           ·intro l w'; rw [hSSs, hSSs]
           ·rfl
           ·intro w' hA;clear hA;go_simp;try with_reducible rfl
           clear hCl hHeld
           intro hCl hHeld
           simp only [sA,sZ,sS] at hCl hHeld
           (try simp only [Act.put]);try simp only [sA,sZ,sS]
           refine rG 11 ?_ ?_ ?_ ?_ ?_ ?_ hCl hHeld ?_;rotate_left 2
           ·simp only [gA,gS,gZ]; exact rfl
           ·intro l w'; rw [hSSs, hSSs]
           ·rfl
           ·intro w' hA;clear hA;go_simp;try with_reducible rfl
           clear hCl hHeld
           intro hCl hHeld
           simp only [sA,sZ,sS] at hCl hHeld
           (try simp only [Act.put]);try simp only [sA,sZ,sS]
           refine rG 12 ?_ ?_ ?_ ?_ ?_ ?_ hCl hHeld ?_;rotate_left 2
           ·simp only [gA,gS,gZ]; exact rfl
           ·intro l w'; rw [hSSs, hSSs]
           ·rfl
           ·intro w' hA; obtain ⟨l, hl, hi, hSl⟩ := hA; have hSl := (hSSs _ _).1 hSl; obtain ⟨hz0, hz1⟩ := hSl; go_simp; try with_reducible rfl
           clear hCl hHeld
           intro hCl hHeld
           simp only [sA,sZ,sS] at hCl hHeld
           (try simp only [Act.put]);try simp only [sA,sZ,sS]
           refine rG 13 ?_ ?_ ?_ ?_ ?_ ?_ hCl hHeld ?_;rotate_left 2
           ·simp only [gA,gS,gZ]; exact rfl
           ·intro l w'; rw [hSSs, hSSs]
           ·rfl
           ·intro w' hA;clear hA;go_simp;try with_reducible rfl
           clear hCl hHeld
           intro hCl hHeld
           simp only [sA,sZ,sS] at hCl hHeld
           (try simp only [Act.put]);try simp only [sA,sZ,sS]
           refine rG 14 ?_ ?_ ?_ ?_ ?_ ?_ hCl hHeld ?_;rotate_left 2
           ·simp only [gA,gS,gZ]; exact rfl
           ·intro l w'; rw [hSSs, hSSs]
           ·rfl
           ·intro w' hA;clear hA;go_simp;try with_reducible rfl
           clear hCl hHeld
           intro hCl hHeld
           simp only [sA,sZ,sS] at hCl hHeld
           (try simp only [Act.put]);try simp only [sA,sZ,sS]
           refine rG 15 ?_ ?_ ?_ ?_ ?_ ?_ hCl hHeld ?_;rotate_left 2
           ·simp only [gA,gS,gZ]; exact rfl
           ·intro l w'; rw [hSSs, hSSs]
           ·rfl
           ·intro w' hA;clear hA;go_simp;try with_reducible rfl
           clear hCl hHeld
           intro hCl hHeld
           simp only [sA,sZ,sS] at hCl hHeld
           (try simp only [Act.put]);try simp only [sA,sZ,sS]
           refine rG 16 ?_ ?_ ?_ ?_ ?_ ?_ hCl hHeld ?_;rotate_left 2
           ·simp only [gA,gS,gZ]; exact rfl
           ·intro l w'; rw [hSSs, hSSs]
           ·rfl
           ·intro w' hA;clear hA;go_simp;try with_reducible rfl
           clear hCl hHeld
           intro hCl hHeld
           simp only [sA,sZ,sS] at hCl hHeld
           (try simp only [Act.put]);try simp only [sA,sZ,sS]
           refine rG 17 ?_ ?_ ?_ ?_ ?_ ?_ hCl hHeld ?_;rotate_left 2
           ·simp only [gA,gS,gZ]; exact rfl
           ·intro l w'; rw [hSSs, hSSs]
           ·rfl
           ·intro w' hA; obtain ⟨l, hl, hi, hSl⟩ := hA; have hSl := (hSSs _ _).1 hSl; obtain ⟨hz0, hz1⟩ := hSl; go_simp; try with_reducible rfl
           clear hCl hHeld
           intro hCl hHeld
           simp only [sA,sZ,sS] at hCl hHeld
           (try simp only [Act.put]);try simp only [sA,sZ,sS]
           refine rG 18 ?_ ?_ ?_ ?_ ?_ ?_ hCl hHeld ?_;rotate_left 2
           ·simp only [gA,gS,gZ]; exact rfl
           ·intro l w'; rw [hSSs, hSSs]
           ·rfl
           ·intro w' hA;clear hA;go_simp;try with_reducible rfl
           clear hCl hHeld
           intro hCl hHeld
           simp only [sA,sZ,sS] at hCl hHeld
           (try simp only [Act.put]);try simp only [sA,sZ,sS]
           refine rG 19 ?_ ?_ ?_ ?_ ?_ ?_ hCl hHeld ?_;rotate_left 2
           ·simp only [gA,gS,gZ]; exact rfl
           ·intro l w'; rw [hSSs, hSSs]
           ·rfl
           ·intro w' hA;clear hA;go_simp;try with_reducible rfl
           clear hCl hHeld
           intro hCl hHeld
           simp only [sA,sZ,sS] at hCl hHeld
           (try simp only [Act.put]);try simp only [sA,sZ,sS]
           clear hCl hHeld
           refine reg_callG 20 ?_ (by kernel_rfl) ?_ (fun K hK => ?_);rotate_left 1
           ·simp only [gA,gS,gZ]; exact rfl
           go_simp
           clear hx0 hx1 hup
           refine hK.out _ _ ((hSSs _ _).2 ⟨hy0, hy1⟩) ?_
           clear hK K
           (try simp only [Act.put]);try simp only [sA,sZ,sS]
           refine wpAnyG_done (by kernel_rfl) ?_ _
           refine NoPanic.normal ?_
           clear hSSs SSs
           go_wp2
           have hnn := HNN.out
           refine ⟨⟨_, _, _, _, _, _, _, _, _, _, _, _, _, _, _, _, _, _, _, _, _, _, _, _, _, _, _, _, _, _, _, _, _, _, ?_, rfl⟩, by simp [intOf]⟩
           exact ⟨1 + 1, by omega, by go_num, congrArg (Value.int .i64) (by omega), ⟨_, FIN.out.1⟩, FIN.out.2.1, FIN.out.2.2⟩
          ·obtain ⟨mn, hmn⟩ : ∃ mn : Int, (if (x : Int) < (z : Int) then (x : Int) else (z : Int)) = mn := ⟨_, rfl⟩
           obtain ⟨mx, hmx⟩ : ∃ mx : Int, (if (x : Int) > (z : Int) then (x : Int) else (z : Int)) = mx := ⟨_, rfl⟩
           have bmn : -1000000 ≤ mn ∧ mn ≤ 1000000 := by rw [← hmn]; split <;> omega
           have bmx : -1000000 ≤ mx ∧ mx ≤ 1000000 := by rw [← hmx]; split <;> omega
           have hmin : ∀ w : World, Sem.run Try.prog (Builtin.min_ #[3, 3] 3 #[.int .i64 (z : Int), .int .i64 (x : Int)]) w = Result.ok (Value.int .i64 mn) w := fun w => by rw [run_min_int2, hmn]
           have hmax : ∀ w : World, Sem.run Try.prog (Builtin.max_ #[3, 3] 3 #[.int .i64 (z : Int), .int .i64 (x : Int)]) w = Result.ok (Value.int .i64 mx) w := fun w => by rw [run_max_int2, hmx]
           have hwk : (IntKind.i64.wrap 3).tmod 3 = 0 := by decide
           obtain ⟨wm, F4, hup, hT4, hF4⟩ := fault_store HF3.out bmn bmx
           have hx0 := HBX3.out.c 2 _ rfl; have hx1 := HBX3.out.c 0 _ rfl
           have hbx4 := HBX3.out.turned hT4 (by omega)
           have hbw4 : Below fb w7 wm := Below.turned HBW3.out hT4 (Nat.le_refl _)
           have hy0 := hbx4.c 2 _ rfl; have hy1 := hbx4.c 0 _ rfl
           have FIN := Lib.hid (And.intro hF4 (And.intro hbx4 hbw4))
           clear hmn hmx bmn bmx hT4 hF4 hbx4 hbw4
           go_wp2_with fail
           obtain ⟨SSs, hSSs⟩ : ∃ S : Array Bool → World → Prop, ∀ l w', S l w' ↔ ((w'.cell? ⟨tb, 2, none⟩ = some (.int .i64 (z : Int))) ∧ (w'.cell? ⟨tb, 0, none⟩ = some (.int .i64 (x : Int)))) := ⟨_, fun _ _ => Iff.rfl⟩
           refine wp_region_noPanic ?_
           refine wp_region_G SSs 21 #[false, false, false, false, false, false, false, false, false, false, false, false, false, false, false, false, false, false, false, false, false] (by kernel_rfl) (by kernel_rfl) (by kernel_rfl) ((hSSs _ _).2 ⟨hx0, hx1⟩) (fun hCl hHeld => ?_)
           generalize wr.drew = wd at *
           refine rG 0 ?_ ?_ ?_ ?_ ?_ ?_ hCl hHeld ?_;rotate_left 2
           ·simp only [gA,gZ]; exact rfl
           ·intro l w'; rw [hSSs, hSSs]
           ·rfl
           ·intro w' hA;clear hA;go_simp;try with_reducible rfl
           clear hCl hHeld
           intro hCl hHeld
           simp only [List.setIfInBounds_toArray, List.set_cons_zero] at hCl hHeld
           (try simp only [Act.put]);try simp only [sA,sZ,sS]
           refine rG 1 ?_ ?_ ?_ ?_ ?_ ?_ hCl hHeld ?_;rotate_left 2
           ·simp only [gA,gS,gZ]; exact rfl
           ·intro l w'; rw [hSSs, hSSs]
           ·rfl
           ·intro w' hA;clear hA;go_simp;try with_reducible rfl
           clear hCl hHeld
           intro hCl hHeld
           simp only [sA,sZ,sS] at hCl hHeld
           (try simp only [Act.put]);try simp only [sA,sZ,sS]
           refine rG 2 ?_ ?_ ?_ ?_ ?_ ?_ hCl hHeld ?_;rotate_left 2
           ·simp only [gA,gS,gZ]; exact rfl
           ·intro l w'; rw [hSSs, hSSs]
           ·rfl
           ·intro w' hA;clear hA;go_simp;try with_reducible rfl
           clear hCl hHeld
           intro hCl hHeld
           simp only [sA,sZ,sS] at hCl hHeld
           (try simp only [Act.put]);try simp only [sA,sZ,sS]
           refine rG 3 ?_ ?_ ?_ ?_ ?_ ?_ hCl hHeld ?_;rotate_left 2
           ·simp only [gA,gS,gZ]; exact rfl
           ·intro l w'; rw [hSSs, hSSs]
           ·rfl
           ·intro w' hA; obtain ⟨l, hl, hi, hSl⟩ := hA; have hSl := (hSSs _ _).1 hSl; obtain ⟨hz0, hz1⟩ := hSl; go_simp; try with_reducible rfl
           clear hCl hHeld
           intro hCl hHeld
           simp only [sA,sZ,sS] at hCl hHeld
           (try simp only [Act.put]);try simp only [sA,sZ,sS]
           refine rG 4 ?_ ?_ ?_ ?_ ?_ ?_ hCl hHeld ?_;rotate_left 2
           ·simp only [gA,gS,gZ]; exact rfl
           ·intro l w'; rw [hSSs, hSSs]
           ·rfl
           ·intro w' hA;clear hA;go_simp;try with_reducible rfl
           clear hCl hHeld
           intro hCl hHeld
           simp only [sA,sZ,sS] at hCl hHeld
           (try simp only [Act.put]);try simp only [sA,sZ,sS]
           refine rG 5 ?_ ?_ ?_ ?_ ?_ ?_ hCl hHeld ?_;rotate_left 2
           ·simp only [gA,gS,gZ]; exact rfl
           ·intro l w'; rw [hSSs, hSSs]
           ·rfl
           ·intro w' hA;clear hA;go_simp;try with_reducible rfl
           clear hCl hHeld
           intro hCl hHeld
           simp only [sA,sZ,sS] at hCl hHeld
           (try simp only [Act.put]);try simp only [sA,sZ,sS]
           refine rG 6 ?_ ?_ ?_ ?_ ?_ ?_ hCl hHeld ?_;rotate_left 2
           ·simp only [gA,gS,gZ]; exact rfl
           ·intro l w'; rw [hSSs, hSSs]
           ·rfl
           ·intro w' hA;clear hA;go_simp;try with_reducible rfl
           clear hCl hHeld
           intro hCl hHeld
           simp only [sA,sZ,sS] at hCl hHeld
           (try simp only [Act.put]);try simp only [sA,sZ,sS]
           refine rG 7 ?_ ?_ ?_ ?_ ?_ ?_ hCl hHeld ?_;rotate_left 2
           ·simp only [gA,gS,gZ]; exact rfl
           ·intro l w'; rw [hSSs, hSSs]
           ·rfl
           ·intro w' hA;clear hA;go_simp;try with_reducible rfl
           clear hCl hHeld
           intro hCl hHeld
           simp only [sA,sZ,sS] at hCl hHeld
           (try simp only [Act.put]);try simp only [sA,sZ,sS]
           refine rG 8 ?_ ?_ ?_ ?_ ?_ ?_ hCl hHeld ?_;rotate_left 2
           ·simp only [gA,gS,gZ]; exact rfl
           ·intro l w'; rw [hSSs, hSSs]
           ·rfl
           ·intro w' hA; obtain ⟨l, hl, hi, hSl⟩ := hA; have hSl := (hSSs _ _).1 hSl; obtain ⟨hz0, hz1⟩ := hSl; go_simp; try with_reducible rfl
           clear hCl hHeld
           intro hCl hHeld
           simp only [sA,sZ,sS] at hCl hHeld
           (try simp only [Act.put]);try simp only [sA,sZ,sS]
           refine rG 9 ?_ ?_ ?_ ?_ ?_ ?_ hCl hHeld ?_;rotate_left 2
           ·simp only [gA,gS,gZ]; exact rfl
           ·intro l w'; rw [hSSs, hSSs]
           ·rfl
           ·intro w' hA;clear hA;go_simp;try with_reducible rfl
           clear hCl hHeld
           intro hCl hHeld
           simp only [sA,sZ,sS] at hCl hHeld
           (try simp only [Act.put]);try simp only [sA,sZ,sS]
           refine rG 10 ?_ ?_ ?_ ?_ ?_ ?_ hCl hHeld ?_;rotate_left 2
           ·simp only [gA,gS,gZ]; exact rfl
           ·intro l w'; rw [hSSs, hSSs]
           ·rfl
           ·intro w' hA;clear hA;go_simp;try with_reducible rfl
           clear hCl hHeld
           intro hCl hHeld
           simp only [sA,sZ,sS] at hCl hHeld
           (try simp only [Act.put]);try simp only [sA,sZ,sS]
           refine rG 11 ?_ ?_ ?_ ?_ ?_ ?_ hCl hHeld ?_;rotate_left 2
           ·simp only [gA,gS,gZ]; exact rfl
           ·intro l w'; rw [hSSs, hSSs]
           ·rfl
           ·intro w' hA;clear hA;go_simp;try with_reducible rfl
           clear hCl hHeld
           intro hCl hHeld
           simp only [sA,sZ,sS] at hCl hHeld
           (try simp only [Act.put]);try simp only [sA,sZ,sS]
           refine rG 12 ?_ ?_ ?_ ?_ ?_ ?_ hCl hHeld ?_;rotate_left 2
           ·simp only [gA,gS,gZ]; exact rfl
           ·intro l w'; rw [hSSs, hSSs]
           ·rfl
           ·intro w' hA; obtain ⟨l, hl, hi, hSl⟩ := hA; have hSl := (hSSs _ _).1 hSl; obtain ⟨hz0, hz1⟩ := hSl; go_simp; try with_reducible rfl
           clear hCl hHeld
           intro hCl hHeld
           simp only [sA,sZ,sS] at hCl hHeld
           (try simp only [Act.put]);try simp only [sA,sZ,sS]
           refine rG 13 ?_ ?_ ?_ ?_ ?_ ?_ hCl hHeld ?_;rotate_left 2
           ·simp only [gA,gS,gZ]; exact rfl
           ·intro l w'; rw [hSSs, hSSs]
           ·rfl
           ·intro w' hA;clear hA;go_simp;try with_reducible rfl
           clear hCl hHeld
           intro hCl hHeld
           simp only [sA,sZ,sS] at hCl hHeld
           (try simp only [Act.put]);try simp only [sA,sZ,sS]
           refine rG 14 ?_ ?_ ?_ ?_ ?_ ?_ hCl hHeld ?_;rotate_left 2
           ·simp only [gA,gS,gZ]; exact rfl
           ·intro l w'; rw [hSSs, hSSs]
           ·rfl
           ·intro w' hA;clear hA;go_simp;try with_reducible rfl
           clear hCl hHeld
           intro hCl hHeld
           simp only [sA,sZ,sS] at hCl hHeld
           (try simp only [Act.put]);try simp only [sA,sZ,sS]
           refine rG 15 ?_ ?_ ?_ ?_ ?_ ?_ hCl hHeld ?_;rotate_left 2
           ·simp only [gA,gS,gZ]; exact rfl
           ·intro l w'; rw [hSSs, hSSs]
           ·rfl
           ·intro w' hA;clear hA;go_simp;try with_reducible rfl
           clear hCl hHeld
           intro hCl hHeld
           simp only [sA,sZ,sS] at hCl hHeld
           (try simp only [Act.put]);try simp only [sA,sZ,sS]
           refine rG 16 ?_ ?_ ?_ ?_ ?_ ?_ hCl hHeld ?_;rotate_left 2
           ·simp only [gA,gS,gZ]; exact rfl
           ·intro l w'; rw [hSSs, hSSs]
           ·rfl
           ·intro w' hA;clear hA;go_simp;try with_reducible rfl
           clear hCl hHeld
           intro hCl hHeld
           simp only [sA,sZ,sS] at hCl hHeld
           (try simp only [Act.put]);try simp only [sA,sZ,sS]
           refine rG 17 ?_ ?_ ?_ ?_ ?_ ?_ hCl hHeld ?_;rotate_left 2
           ·simp only [gA,gS,gZ]; exact rfl
           ·intro l w'; rw [hSSs, hSSs]
           ·rfl
           ·intro w' hA; obtain ⟨l, hl, hi, hSl⟩ := hA; have hSl := (hSSs _ _).1 hSl; obtain ⟨hz0, hz1⟩ := hSl; go_simp; try with_reducible rfl
           clear hCl hHeld
           intro hCl hHeld
           simp only [sA,sZ,sS] at hCl hHeld
           (try simp only [Act.put]);try simp only [sA,sZ,sS]
           refine rG 18 ?_ ?_ ?_ ?_ ?_ ?_ hCl hHeld ?_;rotate_left 2
           ·simp only [gA,gS,gZ]; exact rfl
           ·intro l w'; rw [hSSs, hSSs]
           ·rfl
           ·intro w' hA;clear hA;go_simp;try with_reducible rfl
           clear hCl hHeld
           intro hCl hHeld
           simp only [sA,sZ,sS] at hCl hHeld
           (try simp only [Act.put]);try simp only [sA,sZ,sS]
           refine rG 19 ?_ ?_ ?_ ?_ ?_ ?_ hCl hHeld ?_;rotate_left 2
           ·simp only [gA,gS,gZ]; exact rfl
           ·intro l w'; rw [hSSs, hSSs]
           ·rfl
           ·intro w' hA;clear hA;go_simp;try with_reducible rfl
           clear hCl hHeld
           intro hCl hHeld
           simp only [sA,sZ,sS] at hCl hHeld
           (try simp only [Act.put]);try simp only [sA,sZ,sS]
           clear hCl hHeld
           refine reg_callG 20 ?_ (by kernel_rfl) ?_ (fun K hK => ?_);rotate_left 1
           ·simp only [gA,gS,gZ]; exact rfl
           go_simp
           clear hx0 hx1 hup
           refine hK.out _ _ ((hSSs _ _).2 ⟨hy0, hy1⟩) ?_
           clear hK K
           (try simp only [Act.put]);try simp only [sA,sZ,sS]
           refine wpAnyG_done (by kernel_rfl) ?_ _
           refine NoPanic.normal ?_
           clear hSSs SSs
           go_wp2
           have hnn := HNN.out
           refine ⟨⟨_, _, _, _, _, _, _, _, _, _, _, _, _, _, _, _, _, _, _, _, _, _, _, _, _, _, _, _, _, _, _, _, _, _, ?_, rfl⟩, by simp [intOf]⟩
           exact ⟨2 + 1, by omega, by go_num, congrArg (Value.int .i64) (by omega), ⟨_, FIN.out.1⟩, FIN.out.2.1, FIN.out.2.2⟩
        ·obtain rfl : i = 3 := by omega
         have FIN := Lib.hid (And.intro hF2 hbw)
         clear hF2 hbw hbx
         go_wp2
         exact ⟨⟨j + 1, by omega, by go_num, congrArg (Value.int .i64) (by omega), ⟨_, FIN.out.1⟩, FIN.out.2⟩, by simp [intOf]; omega⟩
      ·obtain rfl : j = 2 := by omega
       have hgl := HM.out.len
       obtain ⟨⟨ta, tb, tc⟩, h0⟩ : ∃ v, (gridT 1 1 bn)[0]? = some v := ⟨_, List.getElem?_eq_getElem (by omega)⟩
       have hz := HM.out.one _ (List.mem_of_getElem? h0)
       simp only [] at hz
       have hb7 : Below w7.heap.size w7 wr := by rw [HFB.out]; exact hbw
       have hpr : RowN wr (w.heap.size + 1) 62 2 (.slice (some ⟨gp, 0, none⟩) 4 gpc) 4 (ptsCells (gridP 1 1)) := (HROW.out.below HBT.out).below hb7
       have htr := HTR.out.below hb7
       have hbu := Build_any F (gridT 1 1 bn) ta tb tc fb gt 2 gtc gp 4 gpc (gridP 1 1) wr OK.out.good h0 hz (by omega) (by omega) OK.out.pts htr hF rfl (by omega) (by omega) HPS.out hpr.ptsC HM.out.some_ (by have := HM.out.few; omega) HM.out.ends
       have HBU := Lib.hid hbu; have HTRR := Lib.hid htr
       have HBWR := Lib.hid (HBW.out.trans ((HBT.out.trans (hb7.mono HBT.out.size)).mono HBW.out.size))
       have hgt := HGTL.out.1; have hsz5 := HBW.out.size
       clear hbu htr hpr hb7 hF hbw hz h0 hgl
       go_wp2_with fail
       refine HBU.out.mono ?_
       rintro e w9 ⟨mb, rfl, hbe, hb9⟩
       have hbs := HBWR.out.size
       have FIN := Lib.hid (And.intro (hbe.low hbs) (And.intro (HTRR.out.below hb9) (HBWR.out.trans (hb9.mono hbs))))
       clear hbe hb9
       go_wp2
       go_ret2
       exact ⟨mb, gt, gtc, F, rfl, FIN.out.1, FIN.out.2.1, by omega, FIN.out.2.2⟩
end Go.Proofs.Ytecnnpkpgbbfkaa
