/- The document's own Sub: what it answers. -/
import Derived.Test.YtbfdianmbpfjmaaTenK
namespace Go.Proofs.Ytbfdianmbpfjmaa
open Go.RowKit
theorem zextS {f : Nat → Nat} {n k : Nat} (hk : n ≤ k) : MagT.V (fun i => if i < n then f i else 0) k = MagT.V f n := by
  obtain ⟨d, rfl⟩ : ∃ d, k = n + d := ⟨k - n, by omega⟩
  rw [MagT.V_split, MagT.V_congr (g := f) (n := n) (fun i hi => if_pos hi), MagT.V_none (f := fun i => if n + i < n then f (n + i) else 0) (fun i _ => if_neg (by omega))]; simp
set_option maxHeartbeats 4000000 in
theorem rSub_any (va vb : Value) (L M X Y : Nat) (w : World) (hL : L ≤ 1000000) (hM : M ≤ 1000000) (hle : Y ≤ X) (ha : Dec w va L X) (hb : Dec w vb M Y) :
    Calls Try.prog 34 #[va, vb] w fun e w' => ∃ v, e = .returned v ∧ Dec w' v L (X - Y) ∧ Below w.heap.size w w' := by
  obtain ⟨ao, n, ca, f, rfl, hnc, hnL, hra, hX, hrf⟩ := ha
  obtain ⟨bo, m, cb, g, rfl, hmc, hmM, hrb, hY, hrg⟩ := hb
  have hn9 : n ≤ 1000000 := by omega
  have hm9 : m ≤ 1000000 := by omega
  have hmn : m ≤ n := by
    rcases Nat.lt_or_ge n m with h | h
    · have := MagT.V_lt_of_len (f := f) (g := g) hra.lt hrg h
      omega
    · exact h
  obtain ⟨i0, hi, hz0, hz1, hz2⟩ := info_parts info_int
  obtain ⟨gz, hgz⟩ : ∃ gz : Nat → Nat, gz = fun i => if i < m then g i else 0 := ⟨_, rfl⟩
  have HA := Lib.hid hra; have HB := Lib.hid hrb; have HX := Lib.hid hX; have HY := Lib.hid hY; have HGZ := Lib.hid hgz
  have HI := Lib.hid hi; have HZ0 := Lib.hid hz0; have HZ1 := Lib.hid hz1; have HZ2 := Lib.hid hz2
  clear hra hrb hX hY hgz hi hz0 hz1 hz2 hrf hrg
  go_enter Try.func34, Try.ntmps34
  go_wp2
  go_loopw [5, 6, 7] (fun ov cy i wr => ∃ k cc : Nat, ∃ o : Nat → Nat, k ≤ n ∧ cc ≤ 1 ∧ i = .int .i64 k ∧ cy = .int .i64 cc ∧
      wr.ownsRow w.heap.size 3 1 ov k (digs o k) ∧ Below w.heap.size w wr ∧ (∀ i, i < k → o i < 10) ∧ MagT.V o k + MagT.V gz k = MagT.V f k + cc * 10 ^ k) (fun _ _ i _ => n - (intOf i).toNat)
  case atStart => exact ⟨0, 0, fun _ => 0, Nat.zero_le _, by omega, by go_num, by go_num, World.ownsRow_nil _ _ _ _, Below.refl _ _, fun i hi => by omega, rfl⟩
  case round =>
    obtain ⟨k, cc, o, hk, hcc, rfl, rfl, hown, hbel, ho, hV⟩ := hrel
    have HOWN := Lib.hid hown; have HO := Lib.hid ho; have HV := Lib.hid hV
    clear hown ho hV
    by_cases hka : k < n
    · obtain ⟨ab, aof, rfl, hac, haB⟩ := (HA.out.below hbel) k hka
      have ha10 : f k < 10 := haB
      by_cases hkb : k < m
      · obtain ⟨bb, bof, rfl, hbc, hbB⟩ := (HB.out.below hbel) k hkb
        have hb10 : g k < 10 := hbB
        have hgk : gz k = g k := by rw [HGZ.out]; exact if_pos hkb
        have HGK := Lib.hid hgk; clear hgk
        by_cases hneg : f k < g k + cc
        · have hlt : (f k : Int) - (cc : Int) - (g k : Int) < 0 := by omega
          obtain ⟨d, hd⟩ : ∃ d, f k + 10 - (g k + cc) = d := ⟨_, rfl⟩
          have e1 : (f k : Int) - (cc : Int) - (g k : Int) + 10 = (d : Int) := by omega
          have hd10 : d < 10 := by omega
          have hstep : d + g k + cc = f k + 1 * 10 := by omega
          have HST := Lib.hid hstep; clear hstep hd
          go_wp2_with (at_builtin; go_loud (refine wpList_append_own _ rfl (.tmp 35) (.tmp 37) 28 rfl w.heap.size 3 i0 (.int .i64 0) 1 8 under_ints HI.out HZ0.out HZ1.out HZ2.out rfl (by decide) _ k (digs o k) rfl (HOWN.out.alloc _) ⟨wr.heap.size, 0, none⟩ 1 1 [.int .i64 (d : Int)] rfl rfl (by intro j u hj; match j, hj with | 0, hj => (simp at hj; subst hj; simp [Addr.add, go_sem])) (by intro u hu; simp at hu; subst hu; rfl) (by unfold maxLen; omega) (by omega) (by have := hbel.size; simp; omega) ?_; intro v1 w1 hown1 hgrow1 _; have HOWN1 := Lib.hid hown1; clear hown1))
          have hbel1 : Below w.heap.size w w1 := (hbel.alloc hbel.size _).grown hgrow1 (by have := hbel.size; simp; omega) (fun kk hkk => (HOWN.out.lt kk hkk).1)
          refine ⟨⟨k + 1, 1, MagT.upd o k d, by omega, by omega, by go_num, rfl, ?_, hbel1, ?_, ?_⟩, by simp [intOf]; omega⟩
          · have := HOWN1.out
            rw [digs_congr (fun i hi => (MagT.upd_other o k d (show i ≠ k by omega)).symm), show Value.int .i64 (d : Int) = .int .i64 ((MagT.upd o k d k : Nat) : Int) by rw [MagT.upd_same], ← digs_succ] at this
            exact this
          · intro i hi
            by_cases e : i = k
            · rw [e, MagT.upd_same]; exact hd10
            · rw [MagT.upd_other _ _ _ e]; exact HO.out i (by omega)
          · rw [MagT.V_upd_succ, MagT.V_succ f, MagT.V_succ gz, HGK.out, Nat.pow_succ]
            exact MagT.sub_arith _ _ _ _ HST.out HV.out
        · have hlt : ¬ ((f k : Int) - (cc : Int) - (g k : Int) < 0) := by omega
          obtain ⟨d, hd⟩ : ∃ d, f k - (g k + cc) = d := ⟨_, rfl⟩
          have e1 : (f k : Int) - (cc : Int) - (g k : Int) = (d : Int) := by omega
          have hd10 : d < 10 := by omega
          have hstep : d + g k + cc = f k + 0 * 10 := by omega
          have HST := Lib.hid hstep; clear hstep hd
          go_wp2_with (at_builtin; go_loud (refine wpList_append_own _ rfl (.tmp 35) (.tmp 37) 28 rfl w.heap.size 3 i0 (.int .i64 0) 1 8 under_ints HI.out HZ0.out HZ1.out HZ2.out rfl (by decide) _ k (digs o k) rfl (HOWN.out.alloc _) ⟨wr.heap.size, 0, none⟩ 1 1 [.int .i64 (d : Int)] rfl rfl (by intro j u hj; match j, hj with | 0, hj => (simp at hj; subst hj; simp [Addr.add, go_sem])) (by intro u hu; simp at hu; subst hu; rfl) (by unfold maxLen; omega) (by omega) (by have := hbel.size; simp; omega) ?_; intro v1 w1 hown1 hgrow1 _; have HOWN1 := Lib.hid hown1; clear hown1))
          have hbel1 : Below w.heap.size w w1 := (hbel.alloc hbel.size _).grown hgrow1 (by have := hbel.size; simp; omega) (fun kk hkk => (HOWN.out.lt kk hkk).1)
          refine ⟨⟨k + 1, 0, MagT.upd o k d, by omega, by omega, by go_num, rfl, ?_, hbel1, ?_, ?_⟩, by simp [intOf]; omega⟩
          · have := HOWN1.out
            rw [digs_congr (fun i hi => (MagT.upd_other o k d (show i ≠ k by omega)).symm), show Value.int .i64 (d : Int) = .int .i64 ((MagT.upd o k d k : Nat) : Int) by rw [MagT.upd_same], ← digs_succ] at this
            exact this
          · intro i hi
            by_cases e : i = k
            · rw [e, MagT.upd_same]; exact hd10
            · rw [MagT.upd_other _ _ _ e]; exact HO.out i (by omega)
          · rw [MagT.V_upd_succ, MagT.V_succ f, MagT.V_succ gz, HGK.out, Nat.pow_succ]
            exact MagT.sub_arith _ _ _ _ HST.out HV.out
      · have hgk : gz k = 0 := by rw [HGZ.out]; exact if_neg hkb
        have HGK := Lib.hid hgk; clear hgk
        by_cases hneg : f k < cc
        · have hlt : (f k : Int) - (cc : Int) < 0 := by omega
          obtain ⟨d, hd⟩ : ∃ d, f k + 10 - cc = d := ⟨_, rfl⟩
          have e1 : (f k : Int) - (cc : Int) + 10 = (d : Int) := by omega
          have hd10 : d < 10 := by omega
          have hstep : d + 0 + cc = f k + 1 * 10 := by omega
          have HST := Lib.hid hstep; clear hstep hd
          go_wp2_with (at_builtin; go_loud (refine wpList_append_own _ rfl (.tmp 35) (.tmp 37) 28 rfl w.heap.size 3 i0 (.int .i64 0) 1 8 under_ints HI.out HZ0.out HZ1.out HZ2.out rfl (by decide) _ k (digs o k) rfl (HOWN.out.alloc _) ⟨wr.heap.size, 0, none⟩ 1 1 [.int .i64 (d : Int)] rfl rfl (by intro j u hj; match j, hj with | 0, hj => (simp at hj; subst hj; simp [Addr.add, go_sem])) (by intro u hu; simp at hu; subst hu; rfl) (by unfold maxLen; omega) (by omega) (by have := hbel.size; simp; omega) ?_; intro v1 w1 hown1 hgrow1 _; have HOWN1 := Lib.hid hown1; clear hown1))
          have hbel1 : Below w.heap.size w w1 := (hbel.alloc hbel.size _).grown hgrow1 (by have := hbel.size; simp; omega) (fun kk hkk => (HOWN.out.lt kk hkk).1)
          refine ⟨⟨k + 1, 1, MagT.upd o k d, by omega, by omega, by go_num, rfl, ?_, hbel1, ?_, ?_⟩, by simp [intOf]; omega⟩
          · have := HOWN1.out
            rw [digs_congr (fun i hi => (MagT.upd_other o k d (show i ≠ k by omega)).symm), show Value.int .i64 (d : Int) = .int .i64 ((MagT.upd o k d k : Nat) : Int) by rw [MagT.upd_same], ← digs_succ] at this
            exact this
          · intro i hi
            by_cases e : i = k
            · rw [e, MagT.upd_same]; exact hd10
            · rw [MagT.upd_other _ _ _ e]; exact HO.out i (by omega)
          · rw [MagT.V_upd_succ, MagT.V_succ f, MagT.V_succ gz, HGK.out, Nat.pow_succ]
            exact MagT.sub_arith _ _ _ _ HST.out HV.out
        · have hlt : ¬ ((f k : Int) - (cc : Int) < 0) := by omega
          obtain ⟨d, hd⟩ : ∃ d, f k - cc = d := ⟨_, rfl⟩
          have e1 : (f k : Int) - (cc : Int) = (d : Int) := by omega
          have hd10 : d < 10 := by omega
          have hstep : d + 0 + cc = f k + 0 * 10 := by omega
          have HST := Lib.hid hstep; clear hstep hd
          go_wp2_with (at_builtin; go_loud (refine wpList_append_own _ rfl (.tmp 35) (.tmp 37) 28 rfl w.heap.size 3 i0 (.int .i64 0) 1 8 under_ints HI.out HZ0.out HZ1.out HZ2.out rfl (by decide) _ k (digs o k) rfl (HOWN.out.alloc _) ⟨wr.heap.size, 0, none⟩ 1 1 [.int .i64 (d : Int)] rfl rfl (by intro j u hj; match j, hj with | 0, hj => (simp at hj; subst hj; simp [Addr.add, go_sem])) (by intro u hu; simp at hu; subst hu; rfl) (by unfold maxLen; omega) (by omega) (by have := hbel.size; simp; omega) ?_; intro v1 w1 hown1 hgrow1 _; have HOWN1 := Lib.hid hown1; clear hown1))
          have hbel1 : Below w.heap.size w w1 := (hbel.alloc hbel.size _).grown hgrow1 (by have := hbel.size; simp; omega) (fun kk hkk => (HOWN.out.lt kk hkk).1)
          refine ⟨⟨k + 1, 0, MagT.upd o k d, by omega, by omega, by go_num, rfl, ?_, hbel1, ?_, ?_⟩, by simp [intOf]; omega⟩
          · have := HOWN1.out
            rw [digs_congr (fun i hi => (MagT.upd_other o k d (show i ≠ k by omega)).symm), show Value.int .i64 (d : Int) = .int .i64 ((MagT.upd o k d k : Nat) : Int) by rw [MagT.upd_same], ← digs_succ] at this
            exact this
          · intro i hi
            by_cases e : i = k
            · rw [e, MagT.upd_same]; exact hd10
            · rw [MagT.upd_other _ _ _ e]; exact HO.out i (by omega)
          · rw [MagT.V_upd_succ, MagT.V_succ f, MagT.V_succ gz, HGK.out, Nat.pow_succ]
            exact MagT.sub_arith _ _ _ _ HST.out HV.out
    · have hkn : k = n := by omega
      subst hkn
      obtain ⟨oo, oc, rfl, hoc, hro⟩ := DReads.owned HOWN.out HO.out
      have hv : MagT.V o k = X - Y := by
        have h1 := HV.out
        have h2 := MagT.V_lt (f := o) (n := k) HO.out
        rw [HGZ.out, zextS hmn, HX.out, HY.out] at h1
        rcases Nat.eq_zero_or_pos cc with h | h
        · subst h; omega
        · have : cc = 1 := by omega
          subst this
          have h3 : MagT.B ^ k = 10 ^ k := rfl
          omega
      have HRO := Lib.hid hro; have HVV := Lib.hid hv; clear hro hv
      go_wp2_with (go_at_call 47; refine (dtrim_any _ _ _ _ (by omega) o hoc HRO.out).mono ?_; rintro e w4 ⟨rfl, rfl⟩)
      go_ret
      have := Dec.of_trim HRO.out hoc
      rw [HVV.out] at this
      exact ⟨_, rfl, this.more hnL, hbel⟩
end Go.Proofs.Ytbfdianmbpfjmaa
