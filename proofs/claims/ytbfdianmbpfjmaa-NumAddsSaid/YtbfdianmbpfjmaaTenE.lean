/- The document's own Mul: what it answers. -/
import Derived.Test.YtbfdianmbpfjmaaTenC
namespace Go.Proofs.Ytbfdianmbpfjmaa
open Go.RowKit Go.MagM
/-- Block g, from its start, holds the digits f 0 .. f (n - 1), and they may be written. -/
def DHeld (w : World) (g n : Nat) (f : Nat → Nat) : Prop :=
  ∀ i, i < n → w.cell? ⟨g, i, none⟩ = some (.int .i64 ((f i : Nat) : Int)) ∧ w.frozen? ⟨g, i, none⟩ = false ∧ f i < MagT.B
theorem DHeld.reads {w : World} {b n : Nat} {f : Nat → Nat} (h : DHeld w b n f) : DReads w (some ⟨b, 0, none⟩) n f := fun i hi => ⟨b, 0, rfl, by rw [Nat.zero_add]; exact (h i hi).1, (h i hi).2.2⟩
theorem DHeld.drewN {w : World} {g n : Nat} {f : Nat → Nat} (h : DHeld w g n f) (q : Nat) : DHeld (w.drewN q) g n f := h
theorem DHeld.setCell {w : World} {g n k x : Nat} {f : Nat → Nat} (h : DHeld w g n f) (hx : x < MagT.B) (hk : k < n) : DHeld (w.setCell ⟨g, k, none⟩ (.int .i64 ((x : Nat) : Int))) g n (MagT.upd f k x) := by
  intro i hi
  obtain ⟨hc, hf, hl⟩ := h i hi
  rw [World.frozen?_setCell]
  by_cases e : i = k
  · subst e
    rw [MagT.upd_same]
    exact ⟨World.cell?_setCell_same _ _ _ hc, hf, hx⟩
  · rw [MagT.upd_other _ _ _ e]
    exact ⟨by rw [World.cell?_setCell_other _ _ _ _ (by intro e'; simp at e' <;> omega)]; exact hc, hf, hl⟩
/-- 'make([]int, n)'. -/
theorem wpList_make_ints {P : Program} {w : World} {ops : Array Oper} {rest : List Oper} {o : Oper} {a : Act} {Q : Exit → Act → World → Prop} (hgd : o.guard = none) (l c : Operand) (t : TypeId)
    (hop : o.op = Op.makeSlice t l c) (e : TypeId) (hu : P.underlying t = some (.slice e)) (hi : (P.info? e).map (fun i => (i.zero, i.size, i.bytes)) = some (some (.int .i64 0), 1, 8))
    (kl kc : IntKind) (L C : Int) (n : Nat) (hl : a.eval l = .int kl L) (hc : a.eval c = .int kc C) (hL : L = (n : Int)) (hC : C = (n : Int)) (hn : n ≤ 9000000000)
    (hK : ∀ w', DHeld w' w.heap.size n (fun _ => 0) → Below w.heap.size w w' → w.heap.size < w'.heap.size → wpList P ops Q rest (a.put o.dst (.slice (some ⟨w.heap.size, 0, none⟩) n n)) w') :
    wpList P ops Q (o :: rest) a w := by
  obtain ⟨i0, h2, hz0, hz1, hz2⟩ := info_parts hi
  refine wpList_make_full w hgd l c t hop w.heap.size e i0 (.int .i64 0) 1 hu h2 hz0 hz1 kl kc L C n hl hc hL hC (by rw [hz2]; omega) (by unfold maxLen; omega) (Nat.le_refl _) ?_
  intro w' hown hg
  have hcells := fun i (h : i < n) => hown.cells (g := w.heap.size) rfl i (.int .i64 0) (by
    show (madeCells #[.int .i64 0] (n * 1)).toList[i]? = _
    rw [toList_madeCells_one]; simp [h])
  have hfz : ∀ j, w'.frozen? ⟨w.heap.size, j, none⟩ = false ∧ w.heap.size < w'.heap.size := by
    intro j
    rcases hown.2 with ⟨h, _⟩ | ⟨g, cap, cur, hv, _, hh, _⟩
    · cases h
    · simp at hv; obtain ⟨rfl, _⟩ := hv
      exact ⟨by simp [World.frozen?, hh], (Array.getElem?_eq_some_iff.1 hh).1⟩
  have hadd : ∀ j, (⟨w.heap.size, 0, none⟩ : Addr).add j = ⟨w.heap.size, j, none⟩ := fun j => by unfold Addr.add; split <;> simp_all
  refine hK w' ?_ ⟨hg.os, hg.tape, hg.output, hg.size, fun k hk => hg.block k hk (by simp)⟩ (hfz 0).2
  intro i hi
  have := hcells i hi
  rw [hadd] at this
  exact ⟨this, (hfz _).1, MagT.B_pos⟩
set_option maxHeartbeats 4000000 in
theorem rMul_any (va vb : Value) (L M X Y : Nat) (w : World) (hL : L ≤ 1000000) (hM : M ≤ 1000000) (ha : Dec w va L X) (hb : Dec w vb M Y) :
    Calls Try.prog 41 #[va, vb] w fun e w' => ∃ v, e = .returned v ∧ Dec w' v (L + M) (X * Y) ∧ Below w.heap.size w w' := by
  obtain ⟨ao, n, ca, f, rfl, hnc, hnL, hra, hX, hrf⟩ := ha
  obtain ⟨bo, m, cb, g, rfl, hmc, hmM, hrb, hY, hrg⟩ := hb
  have hn9 : n ≤ 1000000 := by omega
  have hm9 : m ≤ 1000000 := by omega
  have HX := Lib.hid hX; have HY := Lib.hid hY; have HA := Lib.hid hra; have HB := Lib.hid hrb
  clear hX hY hra hrb hrf hrg
  go_enter Try.func41, Try.ntmps41
  go_wp2_with (first
    | (at_make; refine wpList_make_ints rfl (.tmp 14) (.tmp 14) 28 rfl 3 under_ints info_int .i64 .i64 _ _ (n + m) rfl rfl (by omega) (by omega) (by omega) ?_; intro w1 hh1 hb1 hs1; replace hh1 := Lib.hid hh1))
  go_loopw [6] (fun i wr => ∃ k : Nat, ∃ f' : Nat → Nat, k ≤ n ∧ i = .int .i64 k ∧ DHeld wr w.heap.size (n + m) f' ∧ Turn w.heap.size 0 (n + m) w1 wr ∧ MagT.V f' (k + m) = MagT.V f k * MagT.V g m ∧ ∀ i, k + m ≤ i → f' i = 0) (fun i _ => n - (intOf i).toNat)
  case atStart => exact ⟨0, fun _ => 0, Nat.zero_le _, rfl, hh1.out, Turn.refl _ _ _ _, by rw [MagT.V_none (fun _ _ => rfl)]; simp [MagT.V], fun _ _ => rfl⟩
  case round =>
    obtain ⟨k, f0, hk, rfl, hfr, htr, hV, hs⟩ := hrel
    have HFR := Lib.hid hfr; have HTR := Lib.hid htr; have HV := Lib.hid hV; have HS := Lib.hid hs
    clear hfr htr hV hs
    have hbr : Below w.heap.size w wr := HTR.out.below hb1 (Nat.le_refl _) (by omega)
    by_cases hlt : k < n
    · obtain ⟨x, hx⟩ : ∃ x, f k = x := ⟨_, rfl⟩
      have HXX := Lib.hid hx; clear hx
      go_wp2
      go_loopw [7, 8] (fun cy i wr => ∃ j cc : Nat, ∃ f' : Nat → Nat, j ≤ m ∧ cc ≤ 9 ∧ i = .int .i64 j ∧ cy = .int .i64 cc ∧ DHeld wr w.heap.size (n + m) f' ∧ Turn w.heap.size 0 (n + m) w1 wr ∧
        MagT.V f' (k + j) + cc * 10 ^ (k + j) = MagT.V f0 (k + j) + (MagT.V g j * 10 ^ k) * x ∧ ∀ i, k + j ≤ i → f' i = f0 i) (fun _ i _ => m - (intOf i).toNat)
      case atStart => exact ⟨0, 0, f0, Nat.zero_le _, by omega, rfl, rfl, HFR.out, HTR.out, by simp [MagT.V], fun _ _ => rfl⟩
      case round =>
        obtain ⟨j, cc, f', hj, hcc, rfl, rfl, hfr2, htr2, hV2, hs2⟩ := hrel
        clear hbr
        have HF2 := Lib.hid hfr2; have HT2 := Lib.hid htr2; have HV2 := Lib.hid hV2; have HS2 := Lib.hid hs2
        clear hfr2 htr2 hV2 hs2
        have hbq : Below w.heap.size w wr := HT2.out.below hb1 (Nat.le_refl _) (by omega)
        by_cases hjm : j < m
        · obtain ⟨ab, aof, rfl, hac, haB⟩ := (HA.out.below hbq) k hlt
          obtain ⟨bb, bof, rfl, hbc, hbB⟩ := (HB.out.below hbq) j hjm
          rw [HXX.out] at hac haB
          obtain ⟨y, hy⟩ : ∃ y, g j = y := ⟨_, rfl⟩
          rw [hy] at hbc hbB
          obtain ⟨hoc, hof, hoB⟩ := HF2.out (k + j) (by omega)
          rw [HS2.out (k + j) (Nat.le_refl _)] at hoc hoB
          obtain ⟨z, hz⟩ : ∃ z, f0 (k + j) = z := ⟨_, rfl⟩
          rw [hz] at hoc hoB
          have hx10 : x < 10 := haB
          have hy10 : y < 10 := hbB
          have hz10 : z < 10 := hoB
          clear haB hbB hoB
          obtain ⟨p, hp⟩ : ∃ p, x * y = p := ⟨_, rfl⟩
          have hp81 : p ≤ 81 := by rw [← hp]; exact Nat.mul_le_mul (show x ≤ 9 by omega) (show y ≤ 9 by omega)
          have hpi : (x : Int) * (y : Int) = (p : Int) := by rw [← hp]; simp
          obtain ⟨s, hs⟩ : ∃ s, z + p + cc = s := ⟨_, rfl⟩
          have hsi : (z : Int) + (p : Int) + (cc : Int) = (s : Int) := by omega
          obtain ⟨d, hd⟩ : ∃ d, s % 10 = d := ⟨_, rfl⟩
          obtain ⟨c2, hc2⟩ : ∃ c2, s / 10 = c2 := ⟨_, rfl⟩
          have e1 : (s : Int) % 10 = (d : Int) := by omega
          have e2 : (s : Int) / 10 = (c2 : Int) := by omega
          have hd10 : d < MagT.B := by unfold MagT.B; omega
          have hc9 : c2 ≤ 9 := by omega
          have hstep : d + c2 * MagT.B = z + y * x + cc := by rw [Nat.mul_comm y x, hp]; unfold MagT.B; omega
          have hs99 : s ≤ 99 := by omega
          have hsp : p ≤ s := by omega
          have HST := Lib.hid hstep; have HD := Lib.hid hd10; have HC9 := Lib.hid hc9; have HZ := Lib.hid hz; have HY2 := Lib.hid hy
          clear hstep hd10 hc9 hz hy hd hc2 hp
          have hcap : ¬ (n + m = k + j) := by omega
          go_wp2
          go_quiet (fail)
          have hoc2 : (wr.drewN nq).cell? ⟨w.heap.size, k + j, none⟩ = some (.int .i64 (z : Int)) := hoc
          have hof2 : (wr.drewN nq).frozen? ⟨w.heap.size, k + j, none⟩ = false := hof
          have HF3 := Lib.hid (HF2.out.drewN nq)
          have HT3 := Lib.hid (HT2.out.drewN nq)
          go_wp2
          refine ⟨⟨j + 1, c2, MagT.upd f' (k + j) d, by omega, HC9.out, by go_num, by first | rfl | rw [e2], ?_, ?_, ?_, ?_⟩, by simp [intOf]; omega⟩
          · have := HF3.out.setCell (k := k + j) HD.out (by omega); first | exact this | simpa using this
          · exact HT3.out.setCell (by omega) (by omega) _
          · rw [show k + (j + 1) = k + j + 1 from rfl, MagT.V_upd_succ, MagT.V_succ f0, MagT.V_succ g, HZ.out, HY2.out, Nat.add_mul, Nat.mul_assoc y, show MagT.B ^ j * 10 ^ k = MagT.B ^ (k + j) by rw [Nat.pow_add, Nat.mul_comm]; rfl, show 10 ^ (k + j + 1) = MagT.B ^ (k + j) * MagT.B from Nat.pow_succ ..]
            exact MagT.mac_arith _ _ _ _ HST.out HV2.out
          · intro i hi; rw [MagT.upd_other _ _ _ (by omega)]; exact HS2.out i (by omega)
        · have hjm2 : j = m := by omega
          subst hjm2
          obtain ⟨hoc, hof, hoB⟩ := HF2.out (k + j) (by omega)
          rw [HS2.out (k + j) (Nat.le_refl _), HS.out (k + j) (Nat.le_refl _)] at hoc
          have hcc10 : cc < MagT.B := by unfold MagT.B; omega
          have HCC := Lib.hid hcc10
          clear hoB hcc10
          have hcap : ¬ (n + j = k + j) := by omega
          go_wp2
          refine ⟨⟨k + 1, MagT.upd f' (k + j) cc, by omega, by go_num, ?_, ?_, ?_, ?_⟩, by simp [intOf]; omega⟩
          · have := HF2.out.setCell (k := k + j) HCC.out (by omega); first | exact this | simpa using this
          · exact HT2.out.setCell (by omega) (by omega) _
          · rw [show k + 1 + j = k + j + 1 from by omega, MagT.V_upd_succ, MagT.V_succ f k, HXX.out]
            have h1 := HV2.out
            rw [HV.out] at h1
            rw [Nat.add_mul, show x * MagT.B ^ k * MagT.V g j = MagT.V g j * 10 ^ k * x by rw [Nat.mul_comm (x * _), Nat.mul_comm x, ← Nat.mul_assoc]; rfl]
            exact h1
          · intro i hi
            rw [MagT.upd_other _ _ _ (by omega), HS2.out i (by omega)]; exact HS.out i (by omega)
    · have hkn : k = n := by omega
      subst hkn
      go_wp2_with (go_at_call 47; refine (dtrim_any _ _ _ _ (by omega) f0 (Nat.le_refl _) HFR.out.reads).mono ?_; rintro e w4 ⟨rfl, rfl⟩)
      go_ret
      have := Dec.of_trim HFR.out.reads (Nat.le_refl (k + m))
      rw [HV.out, HX.out, HY.out] at this
      exact ⟨_, rfl, this.more (by omega), hbr⟩
end Go.Proofs.Ytbfdianmbpfjmaa
