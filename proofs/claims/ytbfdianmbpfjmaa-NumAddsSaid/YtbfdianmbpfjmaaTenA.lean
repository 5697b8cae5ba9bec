/- The document's own Add: what it answers. -/
import Derived.Test.YtbfdianmbpfjmaaTenK
namespace Go.Proofs.Ytbfdianmbpfjmaa
open Go.RowKit
/-- One round of the sum of digits. -/
theorem dsum_step (x y c : Nat) : (c + x + y) % 10 + (c + x + y) / 10 * 10 = x + y + c := by omega
theorem zext {f : Nat → Nat} {n k : Nat} (hk : k ≤ n) : MagT.V (fun i => if i < n then f i else 0) k = MagT.V f k := MagT.V_congr (fun i hi => if_pos (by omega))
theorem zext_ge {f : Nat → Nat} {n k : Nat} (hk : n ≤ k) : MagT.V (fun i => if i < n then f i else 0) k = MagT.V f n := by
  obtain ⟨d, rfl⟩ : ∃ d, k = n + d := ⟨k - n, by omega⟩
  rw [MagT.V_split, zext (Nat.le_refl n), MagT.V_none (f := fun i => if n + i < n then f (n + i) else 0) (fun i _ => if_neg (by omega))]; simp
set_option maxHeartbeats 4000000 in
theorem radd_any (va vb : Value) (L M X Y : Nat) (w : World) (hL : L ≤ 1000000) (hM : M ≤ 1000000) (ha : Dec w va L X) (hb : Dec w vb M Y) :
    Calls Try.prog 32 #[va, vb] w fun e w' => ∃ v, e = .returned v ∧ Dec w' v (max L M + 1) (X + Y) ∧ Below w.heap.size w w' := by
  obtain ⟨ao, n, ca, f, rfl, hnc, hnL, hra, hX, _⟩ := ha
  obtain ⟨bo, m, cb, g, rfl, hmc, hmM, hrb, hY, _⟩ := hb
  have hn9 : n ≤ 1000000 := by omega
  have hm9 : m ≤ 1000000 := by omega
  obtain ⟨i0, hi, hz0, hz1, hz2⟩ := info_parts info_int
  obtain ⟨fz, hfz⟩ : ∃ fz : Nat → Nat, fz = fun i => if i < n then f i else 0 := ⟨_, rfl⟩
  obtain ⟨gz, hgz⟩ : ∃ gz : Nat → Nat, gz = fun i => if i < m then g i else 0 := ⟨_, rfl⟩
  have HA := Lib.hid hra; have HB := Lib.hid hrb; have HX := Lib.hid hX; have HY := Lib.hid hY; have HFZ := Lib.hid hfz; have HGZ := Lib.hid hgz
  have HI := Lib.hid hi; have HZ0 := Lib.hid hz0; have HZ1 := Lib.hid hz1; have HZ2 := Lib.hid hz2
  clear hra hrb hX hY hfz hgz hi hz0 hz1 hz2
  go_enter Try.func32, Try.ntmps32
  go_wp2
  go_loopw [5, 6, 7] (fun ov cy i wr => ∃ k cc : Nat, ∃ o : Nat → Nat, k ≤ max n m + 1 ∧ cc ≤ 1 ∧ (k = max n m + 1 → cc = 0) ∧ i = .int .i64 k ∧ cy = .int .i64 cc ∧
      wr.ownsRow w.heap.size 3 1 ov k (digs o k) ∧ Below w.heap.size w wr ∧ (∀ i, i < k → o i < 10) ∧ MagT.V o k + cc * 10 ^ k = MagT.V fz k + MagT.V gz k) (fun _ _ i _ => max n m + 1 - (intOf i).toNat)
  case atStart => exact ⟨0, 0, fun _ => 0, Nat.zero_le _, by omega, fun _ => rfl, by go_num, by go_num, World.ownsRow_nil _ _ _ _, Below.refl _ _, fun i hi => by omega, rfl⟩
  case round =>
    obtain ⟨k, cc, o, hk, hcc, hlast, rfl, rfl, hown, hbel, ho, hV⟩ := hrel
    have HOWN := Lib.hid hown; have HO := Lib.hid ho; have HV := Lib.hid hV; have HLAST := Lib.hid hlast
    clear hown ho hV hlast
    have hk9 : k ≤ 1000001 := by omega
    by_cases hka : k < n
    · obtain ⟨ab, aof, rfl, hac, haB⟩ := (HA.out.below hbel) k hka
      have ha10 : f k < 10 := haB
      have hfk : fz k = f k := by rw [HFZ.out]; exact if_pos hka
      by_cases hkb : k < m
      · obtain ⟨bb, bof, rfl, hbc, hbB⟩ := (HB.out.below hbel) k hkb
        have hb10 : g k < 10 := hbB
        have hgk : gz k = g k := by rw [HGZ.out]; exact if_pos hkb
        have HFK := Lib.hid hfk; have HGK := Lib.hid hgk; clear hfk hgk
        obtain ⟨d, hd⟩ : ∃ d, (cc + f k + g k) % 10 = d := ⟨_, rfl⟩
        obtain ⟨c2, hc2⟩ : ∃ c2, (cc + f k + g k) / 10 = c2 := ⟨_, rfl⟩
        have e1 : ((cc : Int) + (f k : Int) + (g k : Int)) % 10 = (d : Int) := by omega
        have e2 : ((cc : Int) + (f k : Int) + (g k : Int)) / 10 = (c2 : Int) := by omega
        have hd10 : d < 10 := by omega
        have hc21 : c2 ≤ 1 := by omega
        have hstep : d + c2 * 10 = f k + g k + cc := by omega
        have HST := Lib.hid hstep; clear hstep hd hc2
        go_wp2_with (at_builtin; go_loud (refine wpList_append_own _ rfl (.tmp 46) (.tmp 49) 28 rfl w.heap.size 3 i0 (.int .i64 0) 1 8 under_ints HI.out HZ0.out HZ1.out HZ2.out rfl (by decide) _ k (digs o k) rfl (HOWN.out.alloc _) ⟨wr.heap.size, 0, none⟩ 1 1 [.int .i64 (d : Int)] rfl rfl (by intro j u hj; match j, hj with | 0, hj => (simp at hj; subst hj; simp [Addr.add, go_sem])) (by intro u hu; simp at hu; subst hu; rfl) (by unfold maxLen; omega) (by omega) (by have := hbel.size; simp; omega) ?_; intro v1 w1 hown1 hgrow1 _; have HOWN1 := Lib.hid hown1; clear hown1))
        have E2 := Lib.hid e2; clear e1 e2
        have hbel1 : Below w.heap.size w w1 := (hbel.alloc hbel.size _).grown hgrow1 (by have := hbel.size; simp; omega) (fun kk hkk => (HOWN.out.lt kk hkk).1)
        refine ⟨⟨k + 1, c2, MagT.upd o k d, by omega, hc21, ?_, by go_num, by first | rfl | rw [E2.out], ?_, hbel1, ?_, ?_⟩, by simp [intOf]; omega⟩
        · intro hl
          have h9 := HST.out
          omega
        · have := HOWN1.out
          rw [digs_congr (fun i hi => (MagT.upd_other o k d (show i ≠ k by omega)).symm), show Value.int .i64 (d : Int) = .int .i64 ((MagT.upd o k d k : Nat) : Int) by rw [MagT.upd_same], ← digs_succ] at this
          exact this
        · intro i hi
          by_cases e : i = k
          · rw [e, MagT.upd_same]; exact hd10
          · rw [MagT.upd_other _ _ _ e]; exact HO.out i (by omega)
        · rw [MagT.V_upd_succ, MagT.V_succ fz, MagT.V_succ gz, HFK.out, HGK.out, Nat.pow_succ]
          exact MagT.add_arith _ _ _ _ HST.out HV.out
      · have hgk : gz k = 0 := by rw [HGZ.out]; exact if_neg hkb
        have HFK := Lib.hid hfk; have HGK := Lib.hid hgk; clear hfk hgk
        obtain ⟨d, hd⟩ : ∃ d, (cc + f k) % 10 = d := ⟨_, rfl⟩
        obtain ⟨c2, hc2⟩ : ∃ c2, (cc + f k) / 10 = c2 := ⟨_, rfl⟩
        have e1 : ((cc : Int) + (f k : Int)) % 10 = (d : Int) := by omega
        have e2 : ((cc : Int) + (f k : Int)) / 10 = (c2 : Int) := by omega
        have hd10 : d < 10 := by omega
        have hc21 : c2 ≤ 1 := by omega
        have hstep : d + c2 * 10 = f k + 0 + cc := by omega
        have HST := Lib.hid hstep; clear hstep hd hc2
        go_wp2_with (at_builtin; go_loud (refine wpList_append_own _ rfl (.tmp 46) (.tmp 49) 28 rfl w.heap.size 3 i0 (.int .i64 0) 1 8 under_ints HI.out HZ0.out HZ1.out HZ2.out rfl (by decide) _ k (digs o k) rfl (HOWN.out.alloc _) ⟨wr.heap.size, 0, none⟩ 1 1 [.int .i64 (d : Int)] rfl rfl (by intro j u hj; match j, hj with | 0, hj => (simp at hj; subst hj; simp [Addr.add, go_sem])) (by intro u hu; simp at hu; subst hu; rfl) (by unfold maxLen; omega) (by omega) (by have := hbel.size; simp; omega) ?_; intro v1 w1 hown1 hgrow1 _; have HOWN1 := Lib.hid hown1; clear hown1))
        have E2 := Lib.hid e2; clear e1 e2
        have hbel1 : Below w.heap.size w w1 := (hbel.alloc hbel.size _).grown hgrow1 (by have := hbel.size; simp; omega) (fun kk hkk => (HOWN.out.lt kk hkk).1)
        refine ⟨⟨k + 1, c2, MagT.upd o k d, by omega, hc21, ?_, by go_num, by first | rfl | rw [E2.out], ?_, hbel1, ?_, ?_⟩, by simp [intOf]; omega⟩
        · intro hl
          have h9 := HST.out
          omega
        · have := HOWN1.out
          rw [digs_congr (fun i hi => (MagT.upd_other o k d (show i ≠ k by omega)).symm), show Value.int .i64 (d : Int) = .int .i64 ((MagT.upd o k d k : Nat) : Int) by rw [MagT.upd_same], ← digs_succ] at this
          exact this
        · intro i hi
          by_cases e : i = k
          · rw [e, MagT.upd_same]; exact hd10
          · rw [MagT.upd_other _ _ _ e]; exact HO.out i (by omega)
        · rw [MagT.V_upd_succ, MagT.V_succ fz, MagT.V_succ gz, HFK.out, HGK.out, Nat.pow_succ]
          exact MagT.add_arith _ _ _ _ HST.out HV.out
    · have hfk : fz k = 0 := by rw [HFZ.out]; exact if_neg hka
      by_cases hkb : k < m
      · obtain ⟨bb, bof, rfl, hbc, hbB⟩ := (HB.out.below hbel) k hkb
        have hb10 : g k < 10 := hbB
        have hgk : gz k = g k := by rw [HGZ.out]; exact if_pos hkb
        have HFK := Lib.hid hfk; have HGK := Lib.hid hgk; clear hfk hgk
        obtain ⟨d, hd⟩ : ∃ d, (cc + g k) % 10 = d := ⟨_, rfl⟩
        obtain ⟨c2, hc2⟩ : ∃ c2, (cc + g k) / 10 = c2 := ⟨_, rfl⟩
        have e1 : ((cc : Int) + (g k : Int)) % 10 = (d : Int) := by omega
        have e2 : ((cc : Int) + (g k : Int)) / 10 = (c2 : Int) := by omega
        have hd10 : d < 10 := by omega
        have hc21 : c2 ≤ 1 := by omega
        have hstep : d + c2 * 10 = 0 + g k + cc := by omega
        have HST := Lib.hid hstep; clear hstep hd hc2
        go_wp2_with (at_builtin; go_loud (refine wpList_append_own _ rfl (.tmp 46) (.tmp 49) 28 rfl w.heap.size 3 i0 (.int .i64 0) 1 8 under_ints HI.out HZ0.out HZ1.out HZ2.out rfl (by decide) _ k (digs o k) rfl (HOWN.out.alloc _) ⟨wr.heap.size, 0, none⟩ 1 1 [.int .i64 (d : Int)] rfl rfl (by intro j u hj; match j, hj with | 0, hj => (simp at hj; subst hj; simp [Addr.add, go_sem])) (by intro u hu; simp at hu; subst hu; rfl) (by unfold maxLen; omega) (by omega) (by have := hbel.size; simp; omega) ?_; intro v1 w1 hown1 hgrow1 _; have HOWN1 := Lib.hid hown1; clear hown1))
        have E2 := Lib.hid e2; clear e1 e2
        have hbel1 : Below w.heap.size w w1 := (hbel.alloc hbel.size _).grown hgrow1 (by have := hbel.size; simp; omega) (fun kk hkk => (HOWN.out.lt kk hkk).1)
        refine ⟨⟨k + 1, c2, MagT.upd o k d, by omega, hc21, ?_, by go_num, by first | rfl | rw [E2.out], ?_, hbel1, ?_, ?_⟩, by simp [intOf]; omega⟩
        · intro hl
          have h9 := HST.out
          omega
        · have := HOWN1.out
          rw [digs_congr (fun i hi => (MagT.upd_other o k d (show i ≠ k by omega)).symm), show Value.int .i64 (d : Int) = .int .i64 ((MagT.upd o k d k : Nat) : Int) by rw [MagT.upd_same], ← digs_succ] at this
          exact this
        · intro i hi
          by_cases e : i = k
          · rw [e, MagT.upd_same]; exact hd10
          · rw [MagT.upd_other _ _ _ e]; exact HO.out i (by omega)
        · rw [MagT.V_upd_succ, MagT.V_succ fz, MagT.V_succ gz, HFK.out, HGK.out, Nat.pow_succ]
          exact MagT.add_arith _ _ _ _ HST.out HV.out
      · have hgk : gz k = 0 := by rw [HGZ.out]; exact if_neg hkb
        have HFK := Lib.hid hfk; have HGK := Lib.hid hgk; clear hfk hgk
        by_cases hc0 : cc = 0
        · subst hc0
          obtain ⟨oo, oc, rfl, hoc, hro⟩ := DReads.owned HOWN.out HO.out
          have hv : MagT.V o k = X + Y := by
            have h1 := HV.out
            rw [HFZ.out, HGZ.out, zext_ge (by omega), zext_ge (by omega), HX.out, HY.out] at h1
            omega
          have HRO := Lib.hid hro; have HVV := Lib.hid hv; clear hro hv
          go_wp2_with (go_at_call 47; refine (dtrim_any _ _ _ _ (by omega) o hoc HRO.out).mono ?_; rintro e w4 ⟨rfl, rfl⟩)
          go_ret
          have := Dec.of_trim HRO.out hoc
          rw [HVV.out] at this
          exact ⟨_, rfl, this.more (by omega), hbel⟩
        · have hcc1 : (0 : Int) < (cc : Int) := by omega
          have hkM : k ≠ max n m + 1 := fun h => hc0 (HLAST.out h)
          obtain ⟨d, hd⟩ : ∃ d, (cc) % 10 = d := ⟨_, rfl⟩
          obtain ⟨c2, hc2⟩ : ∃ c2, (cc) / 10 = c2 := ⟨_, rfl⟩
          have e1 : ((cc : Int)) % 10 = (d : Int) := by omega
          have e2 : ((cc : Int)) / 10 = (c2 : Int) := by omega
          have hd10 : d < 10 := by omega
          have hc21 : c2 ≤ 1 := by omega
          have hstep : d + c2 * 10 = 0 + 0 + cc := by omega
          have HST := Lib.hid hstep; clear hstep hd hc2
          go_wp2_with (at_builtin; go_loud (refine wpList_append_own _ rfl (.tmp 46) (.tmp 49) 28 rfl w.heap.size 3 i0 (.int .i64 0) 1 8 under_ints HI.out HZ0.out HZ1.out HZ2.out rfl (by decide) _ k (digs o k) rfl (HOWN.out.alloc _) ⟨wr.heap.size, 0, none⟩ 1 1 [.int .i64 (d : Int)] rfl rfl (by intro j u hj; match j, hj with | 0, hj => (simp at hj; subst hj; simp [Addr.add, go_sem])) (by intro u hu; simp at hu; subst hu; rfl) (by unfold maxLen; omega) (by omega) (by have := hbel.size; simp; omega) ?_; intro v1 w1 hown1 hgrow1 _; have HOWN1 := Lib.hid hown1; clear hown1))
          have E2 := Lib.hid e2; clear e1 e2
          have hbel1 : Below w.heap.size w w1 := (hbel.alloc hbel.size _).grown hgrow1 (by have := hbel.size; simp; omega) (fun kk hkk => (HOWN.out.lt kk hkk).1)
          refine ⟨⟨k + 1, c2, MagT.upd o k d, by omega, hc21, ?_, by go_num, by first | rfl | rw [E2.out], ?_, hbel1, ?_, ?_⟩, by simp [intOf]; omega⟩
          · intro hl
            have h9 := HST.out
            omega
          · have := HOWN1.out
            rw [digs_congr (fun i hi => (MagT.upd_other o k d (show i ≠ k by omega)).symm), show Value.int .i64 (d : Int) = .int .i64 ((MagT.upd o k d k : Nat) : Int) by rw [MagT.upd_same], ← digs_succ] at this
            exact this
          · intro i hi
            by_cases e : i = k
            · rw [e, MagT.upd_same]; exact hd10
            · rw [MagT.upd_other _ _ _ e]; exact HO.out i (by omega)
          · rw [MagT.V_upd_succ, MagT.V_succ fz, MagT.V_succ gz, HFK.out, HGK.out, Nat.pow_succ]
            exact MagT.add_arith _ _ _ _ HST.out HV.out
end Go.Proofs.Ytbfdianmbpfjmaa
