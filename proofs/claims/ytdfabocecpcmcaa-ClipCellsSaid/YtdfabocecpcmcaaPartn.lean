/- The calls of clip: Clip. -/
import Derived.Test.YtdfabocecpcmcaaPartm
import Derived.Test.YtdfabocecpcmcaaPartk
import Derived.Test.YtdfabocecpcmcaaPartl
namespace Go.Proofs.Ytdfabocecpcmcaa
open Go.RowKit Go.MagM
theorem info_fracC : (Try.prog.info? 28).map (fun i => (i.zero, i.size, i.bytes)) = some (some (.agg #[.bool false, .slice none 0 0, .slice none 0 0]), 3, 56) := by kernel_rfl
theorem info_spotC : (Try.prog.info? 42).map (fun i => (i.zero, i.size, i.bytes)) = some (some (.agg #[.bool false, .slice none 0 0, .slice none 0 0, .bool false, .slice none 0 0, .slice none 0 0]), 6, 112) := by kernel_rfl
theorem step_mod (k n : Nat) : ((k : Int) + 1).tmod (n : Int) = (((k + 1) % n : Nat) : Int) := by
  rw [show (k : Int) + 1 = ((k + 1 : Nat) : Int) by omega]; exact (Int.ofNat_tmod _ _).symm
theorem sgn_pos {q : Rat} (h : 0 < q) : q.num.sign = 1 := by
  have h1 := (Rat.num_nonneg (q := q)).2 (Rat.le_of_lt h)
  have h2 : q.num ≠ 0 := fun e => by
    have : q = 0 := by have := num_den q; rw [e] at this; rcases Rat.mul_eq_zero.1 (this.trans rfl) with z | z
                       · exact z
                       · exact absurd (by exact_mod_cast z) q.den_nz
    rw [this] at h; exact Rat.lt_irrefl h
  exact Int.sign_eq_one_of_pos (by omega)
theorem sgn_negv {q : Rat} (h : q < 0) : q.num.sign = -1 := by
  have h1 : ¬ 0 ≤ q.num := fun k => absurd (Rat.num_nonneg.1 k) (by grind)
  exact Int.sign_eq_neg_one_of_neg (by omega)
theorem sgn_zero {q : Rat} (h : q = 0) : q.num.sign = 0 := by subst h; rfl
theorem sgn_cases (q : Rat) : (q < 0 ∧ q.num.sign = -1) ∨ (q = 0 ∧ q.num.sign = 0) ∨ (0 < q ∧ q.num.sign = 1) := by
  by_cases h : q < 0
  · exact .inl ⟨h, sgn_negv h⟩
  · by_cases h0 : q = 0
    · exact .inr (.inl ⟨h0, sgn_zero h0⟩)
    · have : 0 < q := by grind
      exact .inr (.inr ⟨this, sgn_pos this⟩)
theorem sgn_le0 (q : Rat) : q.num.sign ≤ 0 ↔ q ≤ 0 := by
  rcases sgn_cases q with ⟨h, e⟩ | ⟨h, e⟩ | ⟨h, e⟩ <;> rw [e] <;> constructor <;> intro k <;> first | omega | grind
theorem sgn_mul0 (p q : Rat) : IntKind.i64.wrap (p.num.sign * q.num.sign) < 0 ↔ p * q < 0 := by
  rcases sgn_cases p with ⟨h, e⟩ | ⟨h, e⟩ | ⟨h, e⟩ <;> rcases sgn_cases q with ⟨h', e'⟩ | ⟨h', e'⟩ | ⟨h', e'⟩ <;> rw [e, e']
  · have := Rat.mul_pos (show 0 < -p by grind) (show 0 < -q by grind)
    exact ⟨fun k => absurd k (by decide), fun k => by grind⟩
  · subst h'; exact ⟨fun k => absurd k (by decide), fun k => by rw [Rat.mul_zero] at k; exact absurd k Rat.lt_irrefl⟩
  · exact ⟨fun _ => neg_mul_pos h (by grind), fun _ => by decide⟩
  · subst h; exact ⟨fun k => absurd k (by decide), fun k => by rw [Rat.zero_mul] at k; exact absurd k Rat.lt_irrefl⟩
  · subst h; exact ⟨fun k => absurd k (by decide), fun k => by rw [Rat.zero_mul] at k; exact absurd k Rat.lt_irrefl⟩
  · subst h; exact ⟨fun k => absurd k (by decide), fun k => by rw [Rat.zero_mul] at k; exact absurd k Rat.lt_irrefl⟩
  · exact ⟨fun _ => pos_mul_neg (by grind) h', fun _ => by decide⟩
  · subst h'; exact ⟨fun k => absurd k (by decide), fun k => by rw [Rat.mul_zero] at k; exact absurd k Rat.lt_irrefl⟩
  · have := Rat.mul_pos h h'
    exact ⟨fun k => absurd k (by decide), fun k => by grind⟩
theorem apart_ne {p q : Rat} (h : p * q < 0) : p - q ≠ 0 := by
  intro e
  have := (ratio_in h).1
  rw [e, Rat.div_def, Rat.inv_zero, Rat.mul_zero] at this
  exact Rat.lt_irrefl this
/-- What is listed behind k sides. -/
def outL (A B C : Rat) (l : List (Rat × Rat)) (k : Nat) : List (Rat × Rat) := (List.range k).flatMap (fun i => cutAt A B C (cor l i) (cor l (i + 1)))
theorem outL_succ {A B C : Rat} {l : List (Rat × Rat)} {k : Nat} {a b : Rat × Rat} (ha : l[k]? = some a) (hb : l[(k + 1) % l.length]? = some b) : outL A B C l (k + 1) = outL A B C l k ++ cutAt A B C a b := by
  have hk := (List.getElem?_eq_some_iff.1 ha).1
  have ea : cor l k = a := by have := cor_at hk; rw [ha] at this; exact (Option.some.inj this).symm
  have eb : cor l (k + 1) = b := by
    have := cor_at (List.getElem?_eq_some_iff.1 hb).1; rw [hb, cor_mod] at this; exact (Option.some.inj this).symm
  unfold outL
  rw [List.range_succ, List.flatMap_append]; simp [ea, eb]
theorem outL_all (A B C : Rat) (l : List (Rat × Rat)) : outL A B C l l.length = cutQ A B C l := (cutQ_flat l).symm
theorem outL_len (A B C : Rat) (l : List (Rat × Rat)) : ∀ k, (outL A B C l k).length ≤ 2 * k
  | 0 => by simp [outL]
  | k + 1 => by
    have ih := outL_len A B C l k
    unfold outL at ih ⊢
    rw [List.range_succ, List.flatMap_append, List.length_append]
    have : ((List.flatMap (fun i => cutAt A B C (cor l i) (cor l (i + 1))) [k])).length ≤ 2 := by
      simp only [List.flatMap_cons, List.flatMap_nil, List.append_nil]
      unfold cutAt
      rw [List.length_append]
      split <;> split <;> simp
    omega
def valsL (A B C : Rat) (l : List (Rat × Rat)) : List Rat := l.map (fvQ A B C)
theorem valsL_at {A B C : Rat} {l : List (Rat × Rat)} {k : Nat} {a : Rat × Rat} (ha : l[k]? = some a) : (valsL A B C l)[k]? = some (fvQ A B C a) := by unfold valsL; rw [List.getElem?_map, ha]; rfl
theorem valsL_take {A B C : Rat} {l : List (Rat × Rat)} {k : Nat} {a : Rat × Rat} (ha : l[k]? = some a) : (valsL A B C l).take (k + 1) = (valsL A B C l).take k ++ [fvQ A B C a] := by
  have h := valsL_at (A := A) (B := B) (C := C) ha
  rw [List.take_succ_eq_append_getElem (List.getElem?_eq_some_iff.1 h).1, (List.getElem?_eq_some_iff.1 h).2]
set_option maxRecDepth 100000 in
set_option maxHeartbeats 32000000 in
theorem cClip_any {ham : Bool} {hao : Option Addr} {han hac : Nat} {hap : Option Addr} {hak had : Nat} {hbm : Bool} {hbo : Option Addr} {hbn hbc : Nat} {hbp : Option Addr} {hbk hbd : Nat} {hcm : Bool} {hco : Option Addr} {hcn hcc : Nat} {hcp : Option Addr} {hck hcd : Nat} (ao : Option Addr) (n c : Nat) (l : List (Rat × Rat)) (Lh L : Nat) (haq hbq hcq : Rat) (w : World) (hn : l.length = n) (hn9 : n ≤ 1000) (hLh : Lh ≤ 1000) (hL : L ≤ 1000) (hsp : SpotsR w ao L l) (fha_0 : FQ w (.agg #[.bool ham, .slice hao han hac, .slice hap hak had]) Lh haq) (fhb_0 : FQ w (.agg #[.bool hbm, .slice hbo hbn hbc, .slice hbp hbk hbd]) Lh hbq) (fhc_0 : FQ w (.agg #[.bool hcm, .slice hco hcn hcc, .slice hcp hck hcd]) Lh hcq) :
    Calls Try.prog 12 #[.slice ao n c, .agg #[.bool ham, .slice hao han hac, .slice hap hak had, .bool hbm, .slice hbo hbn hbc, .slice hbp hbk hbd, .bool hcm, .slice hco hcn hcc, .slice hcp hck hcd]] w fun e w' => AnsL w w' e (L + (((((Lh + L + 2) + (Lh + L + 2) + 2) + Lh + 2) + ((((Lh + L + 2) + (Lh + L + 2) + 2) + Lh + 2) + (((Lh + L + 2) + (Lh + L + 2) + 2) + Lh + 2) + 2) + 3) + (L + L + 2) + 2) + 2) (clipP haq hbq hcq l) := by
  have hB_0 := Below.refl w.heap.size w
  have SP := Lib.hid hsp; clear hsp
  have FHa := Lib.hid fha_0; clear fha_0
  have FHb := Lib.hid fhb_0; clear fhb_0
  have FHc := Lib.hid fhc_0; clear fhc_0
  obtain ⟨i0, hi, hz0, hz1, hz2⟩ := info_parts info_fracC
  have Hi := Lib.hid hi; have Hi0 := Lib.hid hz0; have Hi1 := Lib.hid hz1; have Hi2 := Lib.hid hz2
  clear hi hz0 hz1 hz2
  obtain ⟨j0, hi, hz0, hz1, hz2⟩ := info_parts info_spotC
  have Hj := Lib.hid hi; have Hj0 := Lib.hid hz0; have Hj1 := Lib.hid hz1; have Hj2 := Lib.hid hz2
  clear hi hz0 hz1 hz2
  obtain ⟨w1, hw1, ph_0, hb1, hs1⟩ := new_box w (w.heap.size) rfl [.bool ham, .slice hao han hac, .slice hap hak had, .bool hbm, .slice hbo hbn hbc, .slice hbp hbk hbd, .bool hcm, .slice hco hcn hcc, .slice hcp hck hcd] 30
  have hb1' : Below w.heap.size w w1 := hb1.mono (by omega)
  clear hb1
  have hB_1 := hB_0.trans (hb1'.mono hB_0.size)
  clear hb1' hB_0
  go_enter Try.func12, Try.ntmps12
  go_wp2
  go_loopw [5, 16] (fun pv iv wr => ∃ k : Nat, ∃ xs : List Value, ∃ u : Value, k ≤ n ∧ iv = .int .i64 k ∧ u = pv ∧ RowN wr (w.heap.size + 1) 28 3 u k xs ∧ Fr wr (((Lh + L + 2) + (Lh + L + 2) + 2) + Lh + 2) xs ((valsL haq hbq hcq l).take k) ∧ Below w.heap.size w wr ∧ Box wr w.heap.size [.bool ham, .slice hao han hac, .slice hap hak had, .bool hbm, .slice hbo hbn hbc, .slice hbp hbk hbd, .bool hcm, .slice hco hcn hcc, .slice hcp hck hcd]) (fun _ iv _ => n - (intOf iv).toNat)
  case atStart => exact ⟨0, [], _, Nat.zero_le _, rfl, rfl, RowN.nil _ _ _ _, Fr.nil _ _, hB_1, ph_0⟩
  case round =>
    obtain ⟨k, xs, u, hk, rfl, hu, row_0, fr_0, hB_0, ph_0⟩ := hrel
    subst hu
    by_cases hlt : k < n
    · obtain ⟨x, y, hlk⟩ : ∃ x y, l[k]? = some (x, y) := ⟨_, _, List.getElem?_eq_getElem (by omega)⟩
      obtain ⟨b, o, m1x, o1x, n1x, c1x, p1x, k1x, d1x, m1y, o1y, n1y, c1y, p1y, k1y, d1y, hao, dd_0, r1x, r1y⟩ := (SP.out.below hB_0) k x y hlk
      subst hao
      have f1x_0 := r1x.q; have f1y_0 := r1y.q; clear r1x r1y
      have fha_0 := FHa.out.below hB_0; have fhb_0 := FHb.out.below hB_0; have fhc_0 := FHc.out.below hB_0
      have hT := valsL_take (A := haq) (B := hbq) (C := hcq) hlk
      have HT := Lib.hid hT; clear hT
      have hxl : xs.length = ((valsL haq hbq hcq l).take k).length * 3 := by rw [row_0.1, List.length_take]; simp [valsL]; omega
      have HXL := Lib.hid hxl; clear hxl hlk
      have hrl := row_0.lt
      obtain ⟨ee0, ee1, ee2, ee3, ee4, ee5⟩ := dd_0
      have hl1ph := ph_0.lt
      have hl1B := hB_0.size
      obtain ⟨w2, hw2, pt_0, hb2, hs2⟩ := new_box wr (wr.heap.size) rfl [.bool m1x, .slice o1x n1x c1x, .slice p1x k1x d1x, .bool m1y, .slice o1y n1y c1y, .slice p1y k1y d1y] 42
      have hb2' : Below wr.heap.size wr w2 := hb2.mono (by omega)
      clear hb2
      have hB_1 := hB_0.trans (hb2'.mono hB_0.size)
      have ph_1 := ph_0.below hb2'
      have row_1 := row_0.below hb2'
      have fr_1 := fr_0.below hb2'
      have f1x_1 := f1x_0.below hb2'
      have f1y_1 := f1y_0.below hb2'
      have fha_1 := fha_0.below hb2'
      have fhb_1 := fhb_0.below hb2'
      have fhc_1 := fhc_0.below hb2'
      clear hb2' hB_0 ph_0 row_0 fr_0 f1x_0 f1y_0 fha_0 fhb_0 fhc_0
      obtain ⟨pte0, pte1, pte2, pte3, pte4, pte5, pte6, pte7, pte8, pte9, pte10, pte11⟩ := pt_0.open6
      obtain ⟨phe0, phe1, phe2, phe3, phe4, phe5, phe6, phe7, phe8, phe9, phe10, phe11, phe12, phe13, phe14, phe15, phe16, phe17⟩ := ph_1.open9
      go_wp2_with fail
      refine (cValue_any Lh haq hbq hcq L x y _ (by omega) (by omega) fha_1 fhb_1 fhc_1 f1x_1 f1y_1).mono ?_
      rintro e w3 ⟨m3, o3, n3, c3, p3, k3, d3, rfl, f3_0, hb3⟩
      clear pte0 pte1 pte2 pte3 pte4 pte5 pte6 pte7 pte8 pte9 pte10 pte11 phe0 phe1 phe2 phe3 phe4 phe5 phe6 phe7 phe8 phe9 phe10 phe11 phe12 phe13 phe14 phe15 phe16 phe17
      have hB_2 := hB_1.trans (hb3.mono hB_1.size)
      have ph_2 := ph_1.below hb3
      have row_2 := row_1.below hb3
      have fr_2 := fr_1.below hb3
      have f1x_2 := f1x_1.below hb3
      have f1y_2 := f1y_1.below hb3
      have fha_2 := fha_1.below hb3
      have fhb_2 := fhb_1.below hb3
      have fhc_2 := fhc_1.below hb3
      have pt_1 := pt_0.below hb3
      clear hb3 hB_1 ph_1 row_1 fr_1 f1x_1 f1y_1 fha_1 fhb_1 fhc_1 pt_0
      clear ee0 ee1 ee2 ee3 ee4 ee5
      clear f1x_2 f1y_2 pt_1 fha_2 fhb_2 fhc_2
      have hl2ph := ph_2.lt
      have hl2B := hB_2.size
      obtain ⟨w4, hw4, pz_0, hb4, hs4⟩ := new_box w3 (w3.heap.size) rfl [.bool m3, .slice o3 n3 c3, .slice p3 k3 d3] 28
      have hb4' : Below w3.heap.size w3 w4 := hb4.mono (by omega)
      clear hb4
      have hB_3 := hB_2.trans (hb4'.mono hB_2.size)
      have ph_3 := ph_2.below hb4'
      have row_3 := row_2.below hb4'
      have fr_3 := fr_2.below hb4'
      have f3_1 := f3_0.below hb4'
      clear hb4' hB_2 ph_2 row_2 fr_2 f3_0
      have hzph := ph_3.lt
      have hzpz := pz_0.lt
      obtain ⟨v1, wa, hrun, rown, hgrow, hkept, hnew⟩ := run_append_row' (P := Try.prog) w4 (w.heap.size + 1) 63 63 28 i0 (.agg #[.bool false, .slice none 0 0, .slice none 0 0]) 3 56 (by kernel_rfl) Hi.out Hi0.out Hi1.out Hi2.out rfl (noWord3 _ _ _ _ _ _ _) u k xs row_3 ⟨w3.heap.size, 0, none⟩ 1 1 [.bool m3, .slice o3 n3 c3, .slice p3 k3 d3] (by omega) rfl pz_0.news (by intro u hu; simp at hu; rcases hu with rfl | rfl | rfl <;> rfl) (noWord3 _ _ _ _ _ _ _) (by unfold maxLen; omega) (by omega) (by have := hB_3.size; omega)
      go_wp2_with (refine wpList_append_row rfl _ _ 63 rfl rfl rfl hrun ?_)
      clear row_3 hrun
      have hB_4 := hB_3.grown hgrow (by have := hB_3.size; omega) (fun k hk => by have := hrl k hk; omega)
      have ph_4 := ph_3.grown hgrow (fun e => by have := hrl _ e; omega) ph_3.lt
      have fr_4 := fr_3.kept hkept
      have f3_2 := f3_1.kept hkept
      clear hB_3 ph_3 fr_3 f3_1
      refine ⟨⟨k + 1, _, _, by omega, by go_num, rfl, rown, ?_, hB_4, ph_4⟩, by simp [intOf]; omega⟩
      rw [HT.out]
      exact fr_4.snoc HXL.out f3_2
    · obtain rfl : k = n := by omega
      have htk : (valsL haq hbq hcq l).take k = valsL haq hbq hcq l := by rw [List.take_of_length_le]; simp [valsL]; omega
      rw [htk] at fr_0
      clear htk hlt
      obtain ⟨uo, uc, rfl⟩ := row_0.shape
      obtain ⟨wo, rfl⟩ : ∃ wo : World, wo = wr := ⟨_, rfl⟩
      have ROW := Lib.hid row_0; have FRR := Lib.hid fr_0; have hul := row_0.lt; clear row_0 fr_0 ph_0
      have hW_0 := Below.refl wo.heap.size wo
      have hws := hB_0.size
      go_wp2
      go_loopw [8, 29] (fun pv iv wr => ∃ j : Nat, ∃ ys : List Value, ∃ v : Value, ∃ m : Nat, j ≤ k ∧ iv = .int .i64 j ∧ v = pv ∧ RowN wr wo.heap.size 42 6 v m ys ∧ SrR wr (L + (((((Lh + L + 2) + (Lh + L + 2) + 2) + Lh + 2) + ((((Lh + L + 2) + (Lh + L + 2) + 2) + Lh + 2) + (((Lh + L + 2) + (Lh + L + 2) + 2) + Lh + 2) + 2) + 3) + (L + L + 2) + 2) + 2) ys (outL haq hbq hcq l j) ∧ (outL haq hbq hcq l j).length = m ∧ Below w.heap.size w wr ∧ Below wo.heap.size wo wr) (fun _ iv _ => k - (intOf iv).toNat)
      case atStart => exact ⟨0, [], _, 0, Nat.zero_le _, rfl, rfl, RowN.nil _ _ _ _, SrR.nil _ _, rfl, hB_0, hW_0⟩
      case round =>
          obtain ⟨j, ys, v, m, hj, rfl, hv, row_0, sr_0, hm, hB_0, hW_0⟩ := hrel
          subst hv
          have hml := outL_len haq hbq hcq l j
          rw [hm] at hml
          have HM := Lib.hid hm; clear hm
          by_cases hjl : j < k
          · obtain ⟨i, hi⟩ : ∃ i, (j + 1) % k = i := ⟨_, rfl⟩
            have hik : i < k := by rw [← hi]; exact Nat.mod_lt _ (by omega)
            obtain ⟨x, y, hlj⟩ : ∃ x y, l[j]? = some (x, y) := ⟨_, _, List.getElem?_eq_getElem (by omega)⟩
            obtain ⟨x', y', hli⟩ : ∃ x y, l[i]? = some (x, y) := ⟨_, _, List.getElem?_eq_getElem (by omega)⟩
            obtain ⟨b, o, m1x, o1x, n1x, c1x, p1x, k1x, d1x, m1y, o1y, n1y, c1y, p1y, k1y, d1y, hao, da, r1x, r1y⟩ := SP.out j x y hlj
            obtain ⟨b', o', m2x, o2x, n2x, c2x, p2x, k2x, d2x, m2y, o2y, n2y, c2y, p2y, k2y, d2y, hao', db, r2x, r2y⟩ := SP.out i x' y' hli
            subst hao
            simp at hao'
            obtain ⟨rfl, rfl⟩ := hao'
            obtain ⟨gp, cp, m3, o3, n3, c3, p3, k3, d3, hu, dp, r3⟩ := FRR.out.at ROW.out (valsL_at (A := haq) (B := hbq) (C := hcq) hlj)
            simp only [Value.slice.injEq, true_and] at hu
            obtain ⟨rfl, rfl⟩ := hu
            obtain ⟨gp', cp', m4, o4, n4, c4, p4, k4, d4, hu', dq, r4⟩ := FRR.out.at ROW.out (valsL_at (A := haq) (B := hbq) (C := hcq) hli)
            simp at hu'
            obtain ⟨rfl, rfl⟩ := hu'
            have hgp := hul gp rfl
            have hgb := World.block_lt_of_cell? w _ da.c0
            simp only at hgb
            have hmod : ((j : Int) + 1).tmod (k : Int) = (i : Int) := by rw [step_mod, hi]
            have hk0 : ((k : Int) == 0) = false := by simp; omega
            have hkn : ¬ k = 0 := by omega
            have hwj : IntKind.i64.wrap ((j : Int) + 1) = (j : Int) + 1 := by rw [IntKind.wrap_i64]; omega
            have hb1 : (0 : Int) ≤ (j : Int) := by omega
            have hb2 : (j : Int) < (k : Int) := by omega
            have hb3 : (0 : Int) ≤ (i : Int) := by omega
            have hb4 : (i : Int) < (k : Int) := by omega
            have hO : outL haq hbq hcq l (j + 1) = outL haq hbq hcq l j ++ cutAt haq hbq hcq (x, y) (x', y') := outL_succ hlj (by rw [hn, hi]; exact hli)
            have HO := Lib.hid hO
            obtain ⟨U, hU⟩ : ∃ U, fvQ haq hbq hcq (x, y) = U := ⟨_, rfl⟩
            obtain ⟨V, hV⟩ : ∃ V, fvQ haq hbq hcq (x', y') = V := ⟨_, rfl⟩
            rw [hU] at r3
            rw [hV] at r4
            obtain ⟨sc, hsc⟩ : ∃ s, U.num.sign = s := ⟨_, rfl⟩
            obtain ⟨sd, hsd⟩ : ∃ s, V.num.sign = s := ⟨_, rfl⟩
            have hle := sgn_le0 U; rw [hsc] at hle
            have hmu := sgn_mul0 U V; rw [hsc, hsd] at hmu
            obtain ⟨pv, hpv⟩ : ∃ v, IntKind.i64.wrap (sc * sd) = v := ⟨_, rfl⟩
            rw [hpv] at hmu
            have HLE := Lib.hid hle; have HMU := Lib.hid hmu; clear hle hmu
            have HSC := Lib.hid hsc; have HSD := Lib.hid hsd; have HU := Lib.hid hU; have HV := Lib.hid hV
            have hrl := row_0.lt
            have DA := Lib.hid da; have DB := Lib.hid db; have DP := Lib.hid dp; have DQ := Lib.hid dq; have R1X := Lib.hid r1x; have R1Y := Lib.hid r1y; have R2X := Lib.hid r2x; have R2Y := Lib.hid r2y; have R3 := Lib.hid r3; have R4 := Lib.hid r4
            clear da db dp dq r1x r1y r2x r2y r3 r4 hO hU hV hsc hsd hlj hli hi
            obtain ⟨ee0, ee1, ee2, ee3, ee4, ee5⟩ := DA.out.below hB_0
            have da_0 := DP.out.below hW_0; have db_0 := DQ.out.below hW_0
            have f3_0 := R3.out.below hW_0; have f4_0 := R4.out.below hW_0
            have hl1B := hB_0.size
            obtain ⟨w2, hw2, ps_0, hb2, hs2⟩ := new_box wr (wr.heap.size) rfl [.bool m1x, .slice o1x n1x c1x, .slice p1x k1x d1x, .bool m1y, .slice o1y n1y c1y, .slice p1y k1y d1y] 42
            have hb2' : Below wr.heap.size wr w2 := hb2.mono (by omega)
            clear hb2
            have hB_1 := hB_0.trans (hb2'.mono hB_0.size)
            have hW_1 := hW_0.trans (hb2'.mono hW_0.size)
            have row_1 := row_0.below hb2'
            have sr_1 := sr_0.below hb2'
            have da_1 := da_0.below hb2'
            have db_1 := db_0.below hb2'
            have f3_1 := f3_0.below hb2'
            have f4_1 := f4_0.below hb2'
            clear hb2' hB_0 hW_0 row_0 sr_0 da_0 db_0 f3_0 f4_0
            go_wp2
            try rw [hw2]
            clear ee0 ee1 ee2 ee3 ee4 ee5
            have hB_2 := hB_1.drew'
            have hW_2 := hW_1.drew'
            have row_2 := row_1.drew
            have sr_2 := sr_1.drew
            have da_2 := da_1.drew
            have db_2 := db_1.drew
            have f3_2 := f3_1.drew
            have f4_2 := f4_1.drew
            have ps_1 := ps_0.drew
            clear hB_1 hW_1 row_1 sr_1 da_1 db_1 f3_1 f4_1 ps_0
            go_region_held3 (fun w' => w'.cell? ⟨gp, j * 3, none⟩ = some (.bool m3) ∧ w'.cell? ⟨gp, j * 3 + 1, none⟩ = some (.slice o3 n3 c3) ∧ w'.cell? ⟨gp, j * 3 + 2, none⟩ = some (.slice p3 k3 d3) ∧ w'.cell? ⟨gp, i * 3, none⟩ = some (.bool m4) ∧ w'.cell? ⟨gp, i * 3 + 1, none⟩ = some (.slice o4 n4 c4) ∧ w'.cell? ⟨gp, i * 3 + 2, none⟩ = some (.slice p4 k4 d4))
              (first | with_reducible exact ⟨da_2.c0, da_2.c1, da_2.c2, db_2.c0, db_2.c1, db_2.c2⟩ | with_reducible exact ⟨da_3.c0, da_3.c1, da_3.c2, db_3.c0, db_3.c1, db_3.c2⟩ | with_reducible exact ⟨da_4.c0, da_4.c1, da_4.c2, db_4.c0, db_4.c1, db_4.c2⟩ | fail)
              (first
                | (go_at_call 18; (with_reducible refine (qSign _ (((Lh + L + 2) + (Lh + L + 2) + 2) + Lh + 2) _ _ (by omega) f3_2.q sc HSC.out).mono ?_); rintro e w3 ⟨rfl, hb3⟩; have hB_3 := hB_2.trans (hb3.mono hB_2.size); have hW_3 := hW_2.trans (hb3.mono hW_2.size); have row_3 := row_2.below hb3; have sr_3 := sr_2.below hb3; have da_3 := da_2.below hb3; have db_3 := db_2.below hb3; have f3_3 := f3_2.below hb3; have f4_3 := f4_2.below hb3; have ps_2 := ps_1.below hb3; clear hb3 hB_2 hW_2 row_2 sr_2 da_2 db_2 f3_2 f4_2 ps_1)
                | (go_at_call 18; (with_reducible refine (qSign _ (((Lh + L + 2) + (Lh + L + 2) + 2) + Lh + 2) _ _ (by omega) f4_3.q sd HSD.out).mono ?_); rintro e w4 ⟨rfl, hb4⟩; have hB_4 := hB_3.trans (hb4.mono hB_3.size); have hW_4 := hW_3.trans (hb4.mono hW_3.size); have row_4 := row_3.below hb4; have sr_4 := sr_3.below hb4; have da_4 := da_3.below hb4; have db_4 := db_3.below hb4; have f3_4 := f3_3.below hb4; have f4_4 := f4_3.below hb4; have ps_3 := ps_2.below hb4; clear hb4 hB_3 hW_3 row_3 sr_3 da_3 db_3 f3_3 f4_3 ps_2))
            clear da_4 db_4 f3_4 f4_4
            by_cases hc0 : sc ≤ 0
            · have HC0 := Lib.hid hc0
              obtain ⟨pq0, pq1, pq2, pq3, pq4, pq5, pq6, pq7, pq8, pq9, pq10, pq11⟩ := ps_3.open6
              have hl2ps := ps_3.lt
              have hl2B := hB_4.size
              obtain ⟨w5, hw5, pe_0, hb5, hs5⟩ := new_box w4 (w4.heap.size) rfl [.bool m1x, .slice o1x n1x c1x, .slice p1x k1x d1x, .bool m1y, .slice o1y n1y c1y, .slice p1y k1y d1y] 42
              have hb5' : Below w4.heap.size w4 w5 := hb5.mono (by omega)
              clear hb5
              have hB_5 := hB_4.trans (hb5'.mono hB_4.size)
              have hW_5 := hW_4.trans (hb5'.mono hW_4.size)
              have row_5 := row_4.below hb5'
              have sr_5 := sr_4.below hb5'
              have ps_4 := ps_3.below hb5'
              clear hb5' hB_4 hW_4 row_4 sr_4 ps_3
              have hzps := ps_4.lt
              have hzpe := pe_0.lt
              obtain ⟨v1, wa, hrun, rown, hgrow, hkept, hnew⟩ := run_append_row' (P := Try.prog) w5 (wo.heap.size) 32 32 42 j0 (.agg #[.bool false, .slice none 0 0, .slice none 0 0, .bool false, .slice none 0 0, .slice none 0 0]) 6 112 (by kernel_rfl) Hj.out Hj0.out Hj1.out Hj2.out rfl (noWord6 _ _ _ _ _ _ _ _ _ _ _ _ _ _) v m ys row_5 ⟨w4.heap.size, 0, none⟩ 1 1 [.bool m1x, .slice o1x n1x c1x, .slice p1x k1x d1x, .bool m1y, .slice o1y n1y c1y, .slice p1y k1y d1y] (by omega) rfl pe_0.news (by intro u hu; simp at hu; rcases hu with rfl | rfl | rfl | rfl | rfl | rfl <;> rfl) (noWord6 _ _ _ _ _ _ _ _ _ _ _ _ _ _) (by unfold maxLen; omega) (by omega) (by have := hW_5.size; omega)
              by_cases hx : pv < 0
              · have HX := Lib.hid hx
                go_wp2_with (refine wpList_append_row rfl _ _ 32 rfl rfl rfl hrun ?_)
                try rw [hw5]
                clear pq0 pq1 pq2 pq3 pq4 pq5 pq6 pq7 pq8 pq9 pq10 pq11
                clear row_5 hrun
                have hB_6 := hB_5.grown hgrow (by have := hB_5.size; omega) (fun k hk => by have := hrl k hk; omega)
                have hW_6 := hW_5.grown hgrow (by have := hW_5.size; omega) (fun k hk => by have := hrl k hk; omega)
                have sr_6 := sr_5.kept hkept
                have ps_5 := ps_4.grown hgrow (fun e => by have := hrl _ e; omega) ps_4.lt
                clear hB_5 hW_5 sr_5 ps_4
                have sra_0 := sr_6.append (SrR.one ((R1X.out.below hB_6).more (show L ≤ L + (((((Lh + L + 2) + (Lh + L + 2) + 2) + Lh + 2) + ((((Lh + L + 2) + (Lh + L + 2) + 2) + Lh + 2) + (((Lh + L + 2) + (Lh + L + 2) + 2) + Lh + 2) + 2) + 3) + (L + L + 2) + 2) + 2 by omega)) ((R1Y.out.below hB_6).more (show L ≤ L + (((((Lh + L + 2) + (Lh + L + 2) + 2) + Lh + 2) + ((((Lh + L + 2) + (Lh + L + 2) + 2) + Lh + 2) + (((Lh + L + 2) + (Lh + L + 2) + 2) + Lh + 2) + 2) + 3) + (L + L + 2) + 2) + 2 by omega)))
                clear sr_6
                have rowa_0 := rown; clear rown
                have hrl2 := rowa_0.lt
                have HNEW : ∀ g, v1.ownBlock = some g → g ≠ wr.heap.size := by
                  intro g hg
                  have h1 := hnew g hg
                  have h2 := ps_5.lt
                  rcases h1 with h1 | h1
                  · have := hrl g h1; omega
                  · omega
                clear hnew
                have da_0 := DP.out.below hW_6; have db_0 := DQ.out.below hW_6; have dn_0 := DB.out.below hB_6
                have f3_0 := R3.out.below hW_6; have f4_0 := R4.out.below hW_6; have f1x_0 := R1X.out.below hB_6; have f1y_0 := R1Y.out.below hB_6; have f2x_0 := R2X.out.below hB_6; have f2y_0 := R2Y.out.below hB_6
                have hUV := apart_ne (HMU.out.1 HX.out); have HUV := Lib.hid hUV; clear hUV
                go_wp2
                have hWq_0 := Below.refl wa.heap.size wa
                have hsq : w.heap.size ≤ wa.heap.size := hB_6.size
                have hlqps := ps_5.lt
                have hB_7 := hB_6.drew'
                have hW_7 := hW_6.drew'
                have ps_6 := ps_5.drew
                have sra_1 := sra_0.drew
                have rowa_1 := rowa_0.drew
                have da_1 := da_0.drew
                have db_1 := db_0.drew
                have dn_1 := dn_0.drew
                have f3_1 := f3_0.drew
                have f4_1 := f4_0.drew
                have f1x_1 := f1x_0.drew
                have f1y_1 := f1y_0.drew
                have f2x_1 := f2x_0.drew
                have f2y_1 := f2y_0.drew
                have hWq_1 := hWq_0.drew'
                clear hB_6 hW_6 ps_5 sra_0 rowa_0 da_0 db_0 dn_0 f3_0 f4_0 f1x_0 f1y_0 f2x_0 f2y_0 hWq_0
                obtain ⟨FFq, hFFq⟩ : ∃ F : World → Prop, ∀ w', F w' ↔ (Below w.heap.size w w' ∧ Below wo.heap.size wo w' ∧ Box w' (wr.heap.size) [.bool m1x, .slice o1x n1x c1x, .slice p1x k1x d1x, .bool m1y, .slice o1y n1y c1y, .slice p1y k1y d1y] ∧ SrR w' (L + (((((Lh + L + 2) + (Lh + L + 2) + 2) + Lh + 2) + ((((Lh + L + 2) + (Lh + L + 2) + 2) + Lh + 2) + (((Lh + L + 2) + (Lh + L + 2) + 2) + Lh + 2) + 2) + 3) + (L + L + 2) + 2) + 2) (ys ++ [.bool m1x, .slice o1x n1x c1x, .slice p1x k1x d1x, .bool m1y, .slice o1y n1y c1y, .slice p1y k1y d1y]) (outL haq hbq hcq l j ++ [(x, y)]) ∧ RowN w' wo.heap.size 42 6 v1 (m + 1) (ys ++ [.bool m1x, .slice o1x n1x c1x, .slice p1x k1x d1x, .bool m1y, .slice o1y n1y c1y, .slice p1y k1y d1y]) ∧ At3 w' gp (j * 3) (.bool m3) (.slice o3 n3 c3) (.slice p3 k3 d3) ∧ At3 w' gp (i * 3) (.bool m4) (.slice o4 n4 c4) (.slice p4 k4 d4) ∧ At6 w' b (o + i * 6) (.bool m2x) (.slice o2x n2x c2x) (.slice p2x k2x d2x) (.bool m2y) (.slice o2y n2y c2y) (.slice p2y k2y d2y) ∧ RF w' (.agg #[.bool m3, .slice o3 n3 c3, .slice p3 k3 d3]) (((Lh + L + 2) + (Lh + L + 2) + 2) + Lh + 2) U ∧ RF w' (.agg #[.bool m4, .slice o4 n4 c4, .slice p4 k4 d4]) (((Lh + L + 2) + (Lh + L + 2) + 2) + Lh + 2) V ∧ RF w' (.agg #[.bool m1x, .slice o1x n1x c1x, .slice p1x k1x d1x]) (L) (x) ∧ RF w' (.agg #[.bool m1y, .slice o1y n1y c1y, .slice p1y k1y d1y]) (L) (y) ∧ RF w' (.agg #[.bool m2x, .slice o2x n2x c2x, .slice p2x k2x d2x]) (L) (x') ∧ RF w' (.agg #[.bool m2y, .slice o2y n2y c2y, .slice p2y k2y d2y]) (L) (y') ∧ Below wa.heap.size wa w') := ⟨_, fun _ => Iff.rfl⟩
                have cFq : ∀ {w' w'' : World}, FFq w' → Below w'.heap.size w' w'' → FFq w'' := by
                  intro w' w'' h hb
                  obtain ⟨y0, y1, y2, y3, y4, y5, y6, y7, y8, y9, y10, y11, y12, y13, y14⟩ := (hFFq _).1 h
                  exact (hFFq _).2 ⟨y0.trans (hb.mono y0.size), y1.trans (hb.mono y1.size), y2.below hb, y3.below hb, y4.below hb, y5.below hb, y6.below hb, y7.below hb, y8.below hb, y9.below hb, y10.below hb, y11.below hb, y12.below hb, y13.below hb, y14.trans (hb.mono y14.size)⟩
                have mFq : ∀ {w' : World}, FFq w' → wa.heap.size ≤ w'.heap.size := by
                  intro w' h
                  obtain ⟨y0, y1, y2, y3, y4, y5, y6, y7, y8, y9, y10, y11, y12, y13, y14⟩ := (hFFq _).1 h
                  exact y14.size
                have sFq : ∀ {w' : World}, FFq w' → (w'.cell? ⟨wr.heap.size, 0, none⟩ = some (.bool m1x) ∧ w'.cell? ⟨wr.heap.size, 1, none⟩ = some (.slice o1x n1x c1x) ∧ w'.cell? ⟨wr.heap.size, 2, none⟩ = some (.slice p1x k1x d1x) ∧ w'.cell? ⟨wr.heap.size, 3, none⟩ = some (.bool m1y) ∧ w'.cell? ⟨wr.heap.size, 4, none⟩ = some (.slice o1y n1y c1y) ∧ w'.cell? ⟨wr.heap.size, 5, none⟩ = some (.slice p1y k1y d1y) ∧ w'.cell? ⟨b, o + i * 6, none⟩ = some (.bool m2x) ∧ w'.cell? ⟨b, o + i * 6 + 1, none⟩ = some (.slice o2x n2x c2x) ∧ w'.cell? ⟨b, o + i * 6 + 2, none⟩ = some (.slice p2x k2x d2x) ∧ w'.cell? ⟨b, o + i * 6 + 3, none⟩ = some (.bool m2y) ∧ w'.cell? ⟨b, o + i * 6 + 4, none⟩ = some (.slice o2y n2y c2y) ∧ w'.cell? ⟨b, o + i * 6 + 5, none⟩ = some (.slice p2y k2y d2y) ∧ w'.cell? ⟨gp, j * 3, none⟩ = some (.bool m3) ∧ w'.cell? ⟨gp, j * 3 + 1, none⟩ = some (.slice o3 n3 c3) ∧ w'.cell? ⟨gp, j * 3 + 2, none⟩ = some (.slice p3 k3 d3) ∧ w'.cell? ⟨gp, i * 3, none⟩ = some (.bool m4) ∧ w'.cell? ⟨gp, i * 3 + 1, none⟩ = some (.slice o4 n4 c4) ∧ w'.cell? ⟨gp, i * 3 + 2, none⟩ = some (.slice p4 k4 d4)) := by
                  intro w' h
                  obtain ⟨y0, y1, y2, y3, y4, y5, y6, y7, y8, y9, y10, y11, y12, y13, y14⟩ := (hFFq _).1 h
                  exact ⟨y2.c0, y2.c1, y2.c2, y2.c3, y2.c4, y2.c5, y7.c0, y7.c1, y7.c2, y7.c3, y7.c4, y7.c5, y5.c0, y5.c1, y5.c2, y6.c0, y6.c1, y6.c2⟩
                have zF : FFq wa.drew := (hFFq _).2 ⟨hB_7, hW_7, ps_6, sra_1, rowa_1, da_1, db_1, dn_1, f3_1, f4_1, f1x_1, f1y_1, f2x_1, f2y_1, hWq_1⟩
                clear hB_7 hW_7 ps_6 sra_1 rowa_1 da_1 db_1 dn_1 f3_1 f4_1 f1x_1 f1y_1 f2x_1 f2y_1 hWq_1
                refine wp_region_noPanic ?_
                refine wp_region_held_drew (S := fun w' => w'.cell? ⟨wr.heap.size, 0, none⟩ = some (.bool m1x) ∧ w'.cell? ⟨wr.heap.size, 1, none⟩ = some (.slice o1x n1x c1x) ∧ w'.cell? ⟨wr.heap.size, 2, none⟩ = some (.slice p1x k1x d1x) ∧ w'.cell? ⟨wr.heap.size, 3, none⟩ = some (.bool m1y) ∧ w'.cell? ⟨wr.heap.size, 4, none⟩ = some (.slice o1y n1y c1y) ∧ w'.cell? ⟨wr.heap.size, 5, none⟩ = some (.slice p1y k1y d1y) ∧ w'.cell? ⟨b, o + i * 6, none⟩ = some (.bool m2x) ∧ w'.cell? ⟨b, o + i * 6 + 1, none⟩ = some (.slice o2x n2x c2x) ∧ w'.cell? ⟨b, o + i * 6 + 2, none⟩ = some (.slice p2x k2x d2x) ∧ w'.cell? ⟨b, o + i * 6 + 3, none⟩ = some (.bool m2y) ∧ w'.cell? ⟨b, o + i * 6 + 4, none⟩ = some (.slice o2y n2y c2y) ∧ w'.cell? ⟨b, o + i * 6 + 5, none⟩ = some (.slice p2y k2y d2y) ∧ w'.cell? ⟨gp, j * 3, none⟩ = some (.bool m3) ∧ w'.cell? ⟨gp, j * 3 + 1, none⟩ = some (.slice o3 n3 c3) ∧ w'.cell? ⟨gp, j * 3 + 2, none⟩ = some (.slice p3 k3 d3) ∧ w'.cell? ⟨gp, i * 3, none⟩ = some (.bool m4) ∧ w'.cell? ⟨gp, i * 3 + 1, none⟩ = some (.slice o4 n4 c4) ∧ w'.cell? ⟨gp, i * 3 + 2, none⟩ = some (.slice p4 k4 d4)) (by kernel_rfl) (sFq zF) (fun hHeld => ?_)
                refine reg_take 0 ?_ ?_ ?_ (by kernel_rfl) (by kernel_rfl) (by kernel_rfl) (fun _ _ _ h => h) ?_ ?_ (by assumption) ?_
                rotate_left 2
                · simp only [List.getElem?_toArray, List.getElem?_cons_zero]; exact rfl
                · rfl
                · intro w hSw; (try dsimp only at hSw); go_simp; try with_reducible rfl
                try simp only [Act.put]
                try simp only [List.setIfInBounds_toArray, List.set_cons_zero, List.set_cons_succ]
                refine reg_take 1 ?_ ?_ ?_ (by kernel_rfl) (by kernel_rfl) (by kernel_rfl) (fun _ _ _ h => h) ?_ ?_ (by assumption) ?_
                rotate_left 2
                · simp only [List.getElem?_toArray, List.getElem?_cons_succ, List.getElem?_cons_zero]; exact rfl
                · rfl
                · intro w hSw; (try dsimp only at hSw); go_simp; try with_reducible rfl
                try simp only [Act.put]
                try simp only [List.setIfInBounds_toArray, List.set_cons_zero, List.set_cons_succ]
                refine reg_take 2 ?_ ?_ ?_ (by kernel_rfl) (by kernel_rfl) (by kernel_rfl) (fun _ _ _ h => h) ?_ ?_ (by assumption) ?_
                rotate_left 2
                · simp only [List.getElem?_toArray, List.getElem?_cons_succ, List.getElem?_cons_zero]; exact rfl
                · rfl
                · intro w hSw; (try dsimp only at hSw); go_simp; try with_reducible rfl
                try simp only [Act.put]
                try simp only [List.setIfInBounds_toArray, List.set_cons_zero, List.set_cons_succ]
                refine reg_take 3 ?_ ?_ ?_ (by kernel_rfl) (by kernel_rfl) (by kernel_rfl) (fun _ _ _ h => h) ?_ ?_ (by assumption) ?_
                rotate_left 2
                · simp only [List.getElem?_toArray, List.getElem?_cons_succ, List.getElem?_cons_zero]; exact rfl
                · rfl
                · intro w hSw; (try dsimp only at hSw); go_simp; try with_reducible rfl
                try simp only [Act.put]
                try simp only [List.setIfInBounds_toArray, List.set_cons_zero, List.set_cons_succ]
                refine reg_take 4 ?_ ?_ ?_ (by kernel_rfl) (by kernel_rfl) (by kernel_rfl) (fun _ _ _ h => h) ?_ ?_ (by assumption) ?_
                rotate_left 2
                · simp only [List.getElem?_toArray, List.getElem?_cons_succ, List.getElem?_cons_zero]; exact rfl
                · rfl
                · intro w hSw; (try dsimp only at hSw); go_simp; try with_reducible rfl
                try simp only [Act.put]
                try simp only [List.setIfInBounds_toArray, List.set_cons_zero, List.set_cons_succ]
                refine reg_take 5 ?_ ?_ ?_ (by kernel_rfl) (by kernel_rfl) (by kernel_rfl) (fun _ _ _ h => h) ?_ ?_ (by assumption) ?_
                rotate_left 2
                · simp only [List.getElem?_toArray, List.getElem?_cons_succ, List.getElem?_cons_zero]; exact rfl
                · rfl
                · intro w hSw; (try dsimp only at hSw); go_simp; try with_reducible rfl
                try simp only [Act.put]
                try simp only [List.setIfInBounds_toArray, List.set_cons_zero, List.set_cons_succ]
                refine reg_take 6 ?_ ?_ ?_ (by kernel_rfl) (by kernel_rfl) (by kernel_rfl) (fun _ _ _ h => h) ?_ ?_ (by assumption) ?_
                rotate_left 2
                · simp only [List.getElem?_toArray, List.getElem?_cons_succ, List.getElem?_cons_zero]; exact rfl
                · rfl
                · intro w hSw; (try dsimp only at hSw); go_simp; try with_reducible rfl
                try simp only [Act.put]
                try simp only [List.setIfInBounds_toArray, List.set_cons_zero, List.set_cons_succ]
                refine reg_take 7 ?_ ?_ ?_ (by kernel_rfl) (by kernel_rfl) (by kernel_rfl) (fun _ _ _ h => h) ?_ ?_ (by assumption) ?_
                rotate_left 2
                · simp only [List.getElem?_toArray, List.getElem?_cons_succ, List.getElem?_cons_zero]; exact rfl
                · rfl
                · intro w hSw; (try dsimp only at hSw); go_simp; try with_reducible rfl
                try simp only [Act.put]
                try simp only [List.setIfInBounds_toArray, List.set_cons_zero, List.set_cons_succ]
                refine reg_take 8 ?_ ?_ ?_ (by kernel_rfl) (by kernel_rfl) (by kernel_rfl) (fun _ _ _ h => h) ?_ ?_ (by assumption) ?_
                rotate_left 2
                · simp only [List.getElem?_toArray, List.getElem?_cons_succ, List.getElem?_cons_zero]; exact rfl
                · rfl
                · intro w hSw; (try dsimp only at hSw); go_simp; try with_reducible rfl
                try simp only [Act.put]
                try simp only [List.setIfInBounds_toArray, List.set_cons_zero, List.set_cons_succ]
                refine reg_take 9 ?_ ?_ ?_ (by kernel_rfl) (by kernel_rfl) (by kernel_rfl) (fun _ _ _ h => h) ?_ ?_ (by assumption) ?_
                rotate_left 2
                · simp only [List.getElem?_toArray, List.getElem?_cons_succ, List.getElem?_cons_zero]; exact rfl
                · rfl
                · intro w hSw; (try dsimp only at hSw); go_simp; try with_reducible rfl
                try simp only [Act.put]
                try simp only [List.setIfInBounds_toArray, List.set_cons_zero, List.set_cons_succ]
                refine reg_take 10 ?_ ?_ ?_ (by kernel_rfl) (by kernel_rfl) (by kernel_rfl) (fun _ _ _ h => h) ?_ ?_ (by assumption) ?_
                rotate_left 2
                · simp only [List.getElem?_toArray, List.getElem?_cons_succ, List.getElem?_cons_zero]; exact rfl
                · rfl
                · intro w hSw; (try dsimp only at hSw); go_simp; try with_reducible rfl
                try simp only [Act.put]
                try simp only [List.setIfInBounds_toArray, List.set_cons_zero, List.set_cons_succ]
                refine reg_take 11 ?_ ?_ ?_ (by kernel_rfl) (by kernel_rfl) (by kernel_rfl) (fun _ _ _ h => h) ?_ ?_ (by assumption) ?_
                rotate_left 2
                · simp only [List.getElem?_toArray, List.getElem?_cons_succ, List.getElem?_cons_zero]; exact rfl
                · rfl
                · intro w hSw; (try dsimp only at hSw); go_simp; try with_reducible rfl
                try simp only [Act.put]
                try simp only [List.setIfInBounds_toArray, List.set_cons_zero, List.set_cons_succ]
                refine reg_take 12 ?_ ?_ ?_ (by kernel_rfl) (by kernel_rfl) (by kernel_rfl) (fun _ _ _ h => h) ?_ ?_ (by assumption) ?_
                rotate_left 2
                · simp only [List.getElem?_toArray, List.getElem?_cons_succ, List.getElem?_cons_zero]; exact rfl
                · rfl
                · intro w hSw; (try dsimp only at hSw); go_simp; try with_reducible rfl
                try simp only [Act.put]
                try simp only [List.setIfInBounds_toArray, List.set_cons_zero, List.set_cons_succ]
                refine reg_take 13 ?_ ?_ ?_ (by kernel_rfl) (by kernel_rfl) (by kernel_rfl) (fun _ _ _ h => h) ?_ ?_ (by assumption) ?_
                rotate_left 2
                · simp only [List.getElem?_toArray, List.getElem?_cons_succ, List.getElem?_cons_zero]; exact rfl
                · rfl
                · intro w hSw; (try dsimp only at hSw); go_simp; try with_reducible rfl
                try simp only [Act.put]
                try simp only [List.setIfInBounds_toArray, List.set_cons_zero, List.set_cons_succ]
                refine reg_grab (fun WWq aq hWW hAA => ?_)
                rw [hWW]
                have HAq := Lib.hid hAA; clear hWW hAA hHeld
                obtain ⟨IVq, hIVq⟩ : ∃ IV : Array Bool → Act → World → Prop, ∀ l a w', IV l a w' ↔ ∀ CC : Prop, (∀ (lb14 lb15 : Bool) (lv14 lv15 : Value) (m5x : Bool) (o5x : Option Addr) (n5x : Nat) (c5x : Nat) (p5x : Option Addr) (k5x : Nat) (d5x : Nat) (m5y : Bool) (o5y : Option Addr) (n5y : Nat) (c5y : Nat) (p5y : Option Addr) (k5y : Nat) (d5y : Nat) (gpz : Nat), (l = #[true, true, true, true, true, true, true, true, true, true, true, true, true, true, lb14, lb15, false, false]) → (a = ((aq.put (some 73) lv14).put (some 74) lv15)) → (FFq w') → ((lb14 = true → lv14 = .agg #[.bool m5x, .slice o5x n5x c5x, .slice p5x k5x d5x, .bool m5y, .slice o5y n5y c5y, .slice p5y k5y d5y] ∧ RF w' (.agg #[.bool m5x, .slice o5x n5x c5x, .slice p5x k5x d5x]) (L + (((((Lh + L + 2) + (Lh + L + 2) + 2) + Lh + 2) + ((((Lh + L + 2) + (Lh + L + 2) + 2) + Lh + 2) + (((Lh + L + 2) + (Lh + L + 2) + 2) + Lh + 2) + 2) + 3) + (L + L + 2) + 2) + 2) (x + U / (U - V) * (x' - x)) ∧ RF w' (.agg #[.bool m5y, .slice o5y n5y c5y, .slice p5y k5y d5y]) (L + (((((Lh + L + 2) + (Lh + L + 2) + 2) + Lh + 2) + ((((Lh + L + 2) + (Lh + L + 2) + 2) + Lh + 2) + (((Lh + L + 2) + (Lh + L + 2) + 2) + Lh + 2) + 2) + 3) + (L + L + 2) + 2) + 2) (y + U / (U - V) * (y' - y)))) → ((lb15 = true → lv15 = .slice (some ⟨gpz, 0, none⟩) 1 1 ∧ Box w' gpz [.bool m5x, .slice o5x n5x c5x, .slice p5x k5x d5x, .bool m5y, .slice o5y n5y c5y, .slice p5y k5y d5y] ∧ wa.heap.size ≤ gpz)) → ((lb15 = true → lb14 = true)) → CC) → CC := ⟨_, fun _ _ _ => Iff.rfl⟩
                refine wpAnyH_until IVq ?_ _ _ _ _ ((hIVq _ _ _).2 (fun CC kk => kk false false (aq.tmps.getD 73 undef) (aq.tmps.getD 74 undef) false none 0 0 none 0 0 false none 0 0 none 0 0 0 rfl (by simp only [put_same]) zF (fun h => by cases h) (fun h => by cases h) (fun h => by cases h))) (by kernel_rfl)
                clear zF
                intro ll aa w6 hI
                refine (hIVq _ _ _).1 hI _ ?_
                clear hI
                intro lb14 lb15 lv14 lv15 m5x o5x n5x c5x p5x k5x d5x m5y o5y n5y c5y p5y k5y d5y gpz hll haa zF F14 F15 dp15_14
                subst hll haa
                by_cases hL : lb14 = true ∧ lb15 = true
                · left
                  obtain ⟨rfl, rfl⟩ := hL
                  obtain ⟨rfl, f5x_0, f5y_0⟩ := F14 rfl
                  clear F14
                  obtain ⟨rfl, pz_0, hgpz⟩ := F15 rfl
                  clear F15
                  clear dp15_14
                  show wpAnyH _ _ _ _ _ 2 _ _ _
                  rw [HAq.out]
                  try simp only [Act.put]
                  try simp only [List.setIfInBounds_toArray, List.set_cons_zero, List.set_cons_succ]
                  obtain ⟨hB_0, hW_0, ps_0, sra_0, rowa_0, da_0, db_0, dn_0, f3_0, f4_0, f1x_0, f1y_0, f2x_0, f2y_0, hWq_0⟩ := (hFFq _).1 zF
                  clear zF
                  clear hWq_0
                  refine reg_call 16 ?_ (by kernel_rfl) ?_ (fun K hK => ?_)
                  rotate_left 1
                  · simp only [List.getElem?_toArray, List.getElem?_cons_succ, List.getElem?_cons_zero]; exact rfl
                  refine wanted_go rfl ?_
                  have hpzl := pz_0.lt
                  have hzps := ps_0.lt
                  have hzpz := pz_0.lt
                  obtain ⟨v2, wa, hrun, rowan, hgrow, hkept, hnew⟩ := run_append_row' (P := Try.prog) w6 (wo.heap.size) 32 32 42 j0 (.agg #[.bool false, .slice none 0 0, .slice none 0 0, .bool false, .slice none 0 0, .slice none 0 0]) 6 112 (by kernel_rfl) Hj.out Hj0.out Hj1.out Hj2.out rfl (noWord6 _ _ _ _ _ _ _ _ _ _ _ _ _ _) v1 (m + 1) (ys ++ [.bool m1x, .slice o1x n1x c1x, .slice p1x k1x d1x, .bool m1y, .slice o1y n1y c1y, .slice p1y k1y d1y]) rowa_0 ⟨gpz, 0, none⟩ 1 1 [.bool m5x, .slice o5x n5x c5x, .slice p5x k5x d5x, .bool m5y, .slice o5y n5y c5y, .slice p5y k5y d5y] (by omega) rfl pz_0.news (by intro u hu; simp at hu; rcases hu with rfl | rfl | rfl | rfl | rfl | rfl <;> rfl) (noWord6 _ _ _ _ _ _ _ _ _ _ _ _ _ _) (by unfold maxLen; omega) (by omega) (by have := hW_0.size; omega)
                  refine wp_append_row _ _ 32 rfl rfl rfl hrun ?_
                  clear rowa_0 hrun
                  have hB_1 := hB_0.grown hgrow (by have := hB_0.size; omega) (fun k hk => by have := hrl2 k hk; omega)
                  have hW_1 := hW_0.grown hgrow (by have := hW_0.size; omega) (fun k hk => by have := hrl2 k hk; omega)
                  have ps_1 := ps_0.grown hgrow (fun e => by have := hrl2 _ e; have := HNEW _ e; omega) ps_0.lt
                  have sra_1 := sra_0.kept hkept
                  have da_1 := da_0.grown hgrow (fun e => by have := hrl2 _ e; omega)
                  have db_1 := db_0.grown hgrow (fun e => by have := hrl2 _ e; omega)
                  have dn_1 := dn_0.grown hgrow (fun e => by have := hrl2 _ e; omega)
                  have f3_1 := f3_0.kept hkept
                  have f4_1 := f4_0.kept hkept
                  have f1x_1 := f1x_0.kept hkept
                  have f1y_1 := f1y_0.kept hkept
                  have f2x_1 := f2x_0.kept hkept
                  have f2y_1 := f2y_0.kept hkept
                  have f5x_1 := f5x_0.kept hkept
                  have f5y_1 := f5y_0.kept hkept
                  have pz_1 := pz_0.grown hgrow (fun e => by have := hrl2 _ e; have := hpzl; omega) pz_0.lt
                  clear hB_0 hW_0 ps_0 sra_0 da_0 db_0 dn_0 f3_0 f4_0 f1x_0 f1y_0 f2x_0 f2y_0 f5x_0 f5y_0 pz_0
                  clear hgrow hkept
                  refine hK.out _ _ ⟨ps_1.c0, ps_1.c1, ps_1.c2, ps_1.c3, ps_1.c4, ps_1.c5, dn_1.c0, dn_1.c1, dn_1.c2, dn_1.c3, dn_1.c4, dn_1.c5, da_1.c0, da_1.c1, da_1.c2, db_1.c0, db_1.c1, db_1.c2⟩ (fun hHeld => ?_)
                  clear hK K
                  try simp only [Act.put]
                  try simp only [List.setIfInBounds_toArray, List.set_cons_zero, List.set_cons_succ]
                  refine reg_take 17 ?_ ?_ ?_ (by kernel_rfl) (by kernel_rfl) (by kernel_rfl) (fun _ _ _ h => h) ?_ ?_ (by assumption) ?_
                  rotate_left 2
                  · simp only [List.getElem?_toArray, List.getElem?_cons_succ, List.getElem?_cons_zero]; exact rfl
                  · rfl
                  · intro w hSw; (try dsimp only at hSw); go_simp; try with_reducible rfl
                  try simp only [Act.put]
                  try simp only [List.setIfInBounds_toArray, List.set_cons_zero, List.set_cons_succ]
                  refine wpAnyH_done (by kernel_rfl) ?_ _
                  refine NoPanic.normal ?_
                  go_wp2
                  have hcut : cutAt haq hbq hcq (x, y) (x', y') = [(x, y)] ++ [(x + U / (U - V) * (x' - x), y + U / (U - V) * (y' - y))] := by
                    unfold cutAt crossPt; rw [HU.out, HV.out, if_pos (HLE.out.1 HC0.out), if_pos (HMU.out.1 HX.out)]; rfl
                  have hO2 : outL haq hbq hcq l (j + 1) = outL haq hbq hcq l j ++ [(x, y)] ++ [(x + U / (U - V) * (x' - x), y + U / (U - V) * (y' - y))] := by rw [HO.out, hcut, List.append_assoc]
                  refine ⟨⟨j + 1, _, _, m + 1 + 1, by omega, by go_num, rfl, rowan, ?_, ?_, hB_1, hW_1⟩, by simp [intOf]; omega⟩
                  · rw [hO2]; exact sra_1.append (SrR.one f5x_1 f5y_1)
                  · rw [hO2]; simp [HM.out]
                · right
                  refine ⟨?_, fun i hi => ?_⟩
                  · clear zF F14 F15
                    cases lb14
                    · exact ready_of 14 _ rfl rfl (by kernel_rfl)
                    cases lb15
                    · exact ready_of 15 _ rfl rfl (by kernel_rfl)
                    exact absurd ⟨rfl, rfl⟩ hL
                  have hd : (lb14 = false ∧ i = 14) ∨ (lb15 = false ∧ lb14 = true ∧ i = 15) := by
                    have hin := ready_lt hi
                    obtain rfl | rfl | rfl | rfl | rfl | rfl | rfl | rfl | rfl | rfl | rfl | rfl | rfl | rfl | rfl | rfl | rfl | rfl : i = 0 ∨ i = 1 ∨ i = 2 ∨ i = 3 ∨ i = 4 ∨ i = 5 ∨ i = 6 ∨ i = 7 ∨ i = 8 ∨ i = 9 ∨ i = 10 ∨ i = 11 ∨ i = 12 ∨ i = 13 ∨ i = 14 ∨ i = 15 ∨ i = 16 ∨ i = 17 := by have hin' : i < 18 := hin; omega
                    · exact absurd (ready_off hi) (fun h => Bool.noConfusion (show true = false from h))
                    · exact absurd (ready_off hi) (fun h => Bool.noConfusion (show true = false from h))
                    · exact absurd (ready_off hi) (fun h => Bool.noConfusion (show true = false from h))
                    · exact absurd (ready_off hi) (fun h => Bool.noConfusion (show true = false from h))
                    · exact absurd (ready_off hi) (fun h => Bool.noConfusion (show true = false from h))
                    · exact absurd (ready_off hi) (fun h => Bool.noConfusion (show true = false from h))
                    · exact absurd (ready_off hi) (fun h => Bool.noConfusion (show true = false from h))
                    · exact absurd (ready_off hi) (fun h => Bool.noConfusion (show true = false from h))
                    · exact absurd (ready_off hi) (fun h => Bool.noConfusion (show true = false from h))
                    · exact absurd (ready_off hi) (fun h => Bool.noConfusion (show true = false from h))
                    · exact absurd (ready_off hi) (fun h => Bool.noConfusion (show true = false from h))
                    · exact absurd (ready_off hi) (fun h => Bool.noConfusion (show true = false from h))
                    · exact absurd (ready_off hi) (fun h => Bool.noConfusion (show true = false from h))
                    · exact absurd (ready_off hi) (fun h => Bool.noConfusion (show true = false from h))
                    · exact .inl ⟨ready_off hi, rfl⟩
                    · exact .inr (⟨ready_off hi, ready_dep (d := 14) hi (by kernel_rfl), rfl⟩)
                    · have k15 : lb15 = true := ready_dep (d := 15) hi (by kernel_rfl); have k14 : lb14 = true := ready_dep (d := 14) hi (by kernel_rfl)
                      exact absurd ⟨k14, k15⟩ hL
                    · exact absurd (ready_dep (d := 16) hi (by kernel_rfl)) (fun h => Bool.noConfusion (show false = true from h))
                  clear hi hL
                  rcases hd with ⟨rfl, rfl⟩ | ⟨rfl, rfl, rfl⟩
                  · obtain ⟨-, -, -, -, -, -, -, -, f3_0, f4_0, f1x_0, f1y_0, f2x_0, f2y_0, -⟩ := (hFFq _).1 zF
                    refine step_of 14 ?_ ?_ (fun K hK => ?_)
                    rotate_left 1
                    · simp only [List.getElem?_toArray, List.getElem?_cons_succ, List.getElem?_cons_zero]; exact rfl
                    rw [HAq.out]
                    try simp only [Act.put]
                    try simp only [List.setIfInBounds_toArray, List.set_cons_zero, List.set_cons_succ]
                    go_simp
                    refine (cCrossing_any L x y L x' y' (((Lh + L + 2) + (Lh + L + 2) + 2) + Lh + 2) U (((Lh + L + 2) + (Lh + L + 2) + 2) + Lh + 2) V _ (by omega) (by omega) (by omega) (by omega) f1x_0.q f1y_0.q f2x_0.q f2y_0.q f3_0.q f4_0.q HUV.out).mono ?_
                    rintro e w7 ⟨m5x, o5x, n5x, c5x, p5x, k5x, d5x, m5y, o5y, n5y, c5y, p5y, k5y, d5y, rfl, f5x_0, f5y_0, hb⟩
                    go_wp2_with fail
                    refine hK.out _ _ (sFq (cFq zF hb)) ?_
                    exact (hIVq _ _ _).2 (fun CC kk => kk true lb15 (.agg #[.bool m5x, .slice o5x n5x c5x, .slice p5x k5x d5x, .bool m5y, .slice o5y n5y c5y, .slice p5y k5y d5y]) lv15 m5x o5x n5x c5x p5x k5x d5x m5y o5y n5y c5y p5y k5y d5y gpz rfl (by simp only [HAq.out, Act.put, List.setIfInBounds_toArray, List.set_cons_zero, List.set_cons_succ]) (cFq zF hb) (fun _ => ⟨rfl, f5x_0, f5y_0⟩) (fun h => absurd (dp15_14 h) (by decide)) (fun _ => rfl))
                  · obtain ⟨rfl, f5x_0, f5y_0⟩ := F14 rfl
                    clear F14
                    refine step_of 15 ?_ ?_ (fun K hK => ?_)
                    rotate_left 1
                    · simp only [List.getElem?_toArray, List.getElem?_cons_succ, List.getElem?_cons_zero]; exact rfl
                    rw [HAq.out]
                    try simp only [Act.put]
                    try simp only [List.setIfInBounds_toArray, List.set_cons_zero, List.set_cons_succ]
                    go_simp
                    have hgn := mFq zF
                    obtain ⟨wn, hwn, pz_0, hb, -⟩ := new_box w6 _ rfl [.bool m5x, .slice o5x n5x c5x, .slice p5x k5x d5x, .bool m5y, .slice o5y n5y c5y, .slice p5y k5y d5y] 42
                    rw [hwn]
                    refine hK.out _ _ (sFq (cFq zF hb)) ?_
                    exact (hIVq _ _ _).2 (fun CC kk => kk true true _ (.slice (some ⟨w6.heap.size, 0, none⟩) 1 1) m5x o5x n5x c5x p5x k5x d5x m5y o5y n5y c5y p5y k5y d5y w6.heap.size rfl (by simp only [HAq.out, Act.put, List.setIfInBounds_toArray, List.set_cons_zero, List.set_cons_succ]) (cFq zF hb) (fun _ => ⟨rfl, f5x_0.below hb, f5y_0.below hb⟩) (fun _ => ⟨rfl, pz_0, hgn⟩) (fun _ => rfl))
              · have HX := Lib.hid hx
                go_wp2_with (refine wpList_append_row rfl _ _ 32 rfl rfl rfl hrun ?_)
                try rw [hw5]
                clear pq0 pq1 pq2 pq3 pq4 pq5 pq6 pq7 pq8 pq9 pq10 pq11
                clear row_5 hrun
                have hB_6 := hB_5.grown hgrow (by have := hB_5.size; omega) (fun k hk => by have := hrl k hk; omega)
                have hW_6 := hW_5.grown hgrow (by have := hW_5.size; omega) (fun k hk => by have := hrl k hk; omega)
                have sr_6 := sr_5.kept hkept
                have ps_5 := ps_4.grown hgrow (fun e => by have := hrl _ e; omega) ps_4.lt
                clear hB_5 hW_5 sr_5 ps_4
                have sra_0 := sr_6.append (SrR.one ((R1X.out.below hB_6).more (show L ≤ L + (((((Lh + L + 2) + (Lh + L + 2) + 2) + Lh + 2) + ((((Lh + L + 2) + (Lh + L + 2) + 2) + Lh + 2) + (((Lh + L + 2) + (Lh + L + 2) + 2) + Lh + 2) + 2) + 3) + (L + L + 2) + 2) + 2 by omega)) ((R1Y.out.below hB_6).more (show L ≤ L + (((((Lh + L + 2) + (Lh + L + 2) + 2) + Lh + 2) + ((((Lh + L + 2) + (Lh + L + 2) + 2) + Lh + 2) + (((Lh + L + 2) + (Lh + L + 2) + 2) + Lh + 2) + 2) + 3) + (L + L + 2) + 2) + 2 by omega)))
                clear sr_6
                have rowa_0 := rown; clear rown
                have hrl2 := rowa_0.lt
                have HNEW : ∀ g, v1.ownBlock = some g → g ≠ wr.heap.size := by
                  intro g hg
                  have h1 := hnew g hg
                  have h2 := ps_5.lt
                  rcases h1 with h1 | h1
                  · have := hrl g h1; omega
                  · omega
                clear hnew
                go_wp2
                have hcut : cutAt haq hbq hcq (x, y) (x', y') = [(x, y)] := by
                  unfold cutAt crossPt; rw [HU.out, HV.out, if_pos (HLE.out.1 HC0.out), if_neg (fun h => by have h1 := HMU.out.2 h; have h2 := HX.out; omega)]; rfl
                have hO2 : outL haq hbq hcq l (j + 1) = outL haq hbq hcq l j ++ [(x, y)] := by rw [HO.out, hcut]
                refine ⟨⟨j + 1, _, _, m + 1, by omega, by go_num, rfl, rowa_0, ?_, ?_, hB_6, hW_6⟩, by simp [intOf]; omega⟩
                · rw [hO2]; exact sra_0
                · rw [hO2]; simp [HM.out]
            · have HC0 := Lib.hid hc0
              by_cases hx : pv < 0
              · have HX := Lib.hid hx
                have hrl2 := hrl
                have HNEW : ∀ g, v.ownBlock = some g → g ≠ wr.heap.size := fun g hg => by have := hrl g hg; omega
                have sra_0 := sr_4; clear sr_4
                have rowa_0 := row_4; clear row_4
                have da_0 := DP.out.below hW_4; have db_0 := DQ.out.below hW_4; have dn_0 := DB.out.below hB_4
                have f3_0 := R3.out.below hW_4; have f4_0 := R4.out.below hW_4; have f1x_0 := R1X.out.below hB_4; have f1y_0 := R1Y.out.below hB_4; have f2x_0 := R2X.out.below hB_4; have f2y_0 := R2Y.out.below hB_4
                have hUV := apart_ne (HMU.out.1 HX.out); have HUV := Lib.hid hUV; clear hUV
                go_wp2
                have hWq_0 := Below.refl w4.heap.size w4
                have hsq : w.heap.size ≤ w4.heap.size := hB_4.size
                have hlqps := ps_3.lt
                have hB_5 := hB_4.drew'
                have hW_5 := hW_4.drew'
                have ps_4 := ps_3.drew
                have sra_1 := sra_0.drew
                have rowa_1 := rowa_0.drew
                have da_1 := da_0.drew
                have db_1 := db_0.drew
                have dn_1 := dn_0.drew
                have f3_1 := f3_0.drew
                have f4_1 := f4_0.drew
                have f1x_1 := f1x_0.drew
                have f1y_1 := f1y_0.drew
                have f2x_1 := f2x_0.drew
                have f2y_1 := f2y_0.drew
                have hWq_1 := hWq_0.drew'
                clear hB_4 hW_4 ps_3 sra_0 rowa_0 da_0 db_0 dn_0 f3_0 f4_0 f1x_0 f1y_0 f2x_0 f2y_0 hWq_0
                obtain ⟨FFq, hFFq⟩ : ∃ F : World → Prop, ∀ w', F w' ↔ (Below w.heap.size w w' ∧ Below wo.heap.size wo w' ∧ Box w' (wr.heap.size) [.bool m1x, .slice o1x n1x c1x, .slice p1x k1x d1x, .bool m1y, .slice o1y n1y c1y, .slice p1y k1y d1y] ∧ SrR w' (L + (((((Lh + L + 2) + (Lh + L + 2) + 2) + Lh + 2) + ((((Lh + L + 2) + (Lh + L + 2) + 2) + Lh + 2) + (((Lh + L + 2) + (Lh + L + 2) + 2) + Lh + 2) + 2) + 3) + (L + L + 2) + 2) + 2) ys (outL haq hbq hcq l j) ∧ RowN w' wo.heap.size 42 6 v m ys ∧ At3 w' gp (j * 3) (.bool m3) (.slice o3 n3 c3) (.slice p3 k3 d3) ∧ At3 w' gp (i * 3) (.bool m4) (.slice o4 n4 c4) (.slice p4 k4 d4) ∧ At6 w' b (o + i * 6) (.bool m2x) (.slice o2x n2x c2x) (.slice p2x k2x d2x) (.bool m2y) (.slice o2y n2y c2y) (.slice p2y k2y d2y) ∧ RF w' (.agg #[.bool m3, .slice o3 n3 c3, .slice p3 k3 d3]) (((Lh + L + 2) + (Lh + L + 2) + 2) + Lh + 2) U ∧ RF w' (.agg #[.bool m4, .slice o4 n4 c4, .slice p4 k4 d4]) (((Lh + L + 2) + (Lh + L + 2) + 2) + Lh + 2) V ∧ RF w' (.agg #[.bool m1x, .slice o1x n1x c1x, .slice p1x k1x d1x]) (L) (x) ∧ RF w' (.agg #[.bool m1y, .slice o1y n1y c1y, .slice p1y k1y d1y]) (L) (y) ∧ RF w' (.agg #[.bool m2x, .slice o2x n2x c2x, .slice p2x k2x d2x]) (L) (x') ∧ RF w' (.agg #[.bool m2y, .slice o2y n2y c2y, .slice p2y k2y d2y]) (L) (y') ∧ Below w4.heap.size w4 w') := ⟨_, fun _ => Iff.rfl⟩
                have cFq : ∀ {w' w'' : World}, FFq w' → Below w'.heap.size w' w'' → FFq w'' := by
                  intro w' w'' h hb
                  obtain ⟨y0, y1, y2, y3, y4, y5, y6, y7, y8, y9, y10, y11, y12, y13, y14⟩ := (hFFq _).1 h
                  exact (hFFq _).2 ⟨y0.trans (hb.mono y0.size), y1.trans (hb.mono y1.size), y2.below hb, y3.below hb, y4.below hb, y5.below hb, y6.below hb, y7.below hb, y8.below hb, y9.below hb, y10.below hb, y11.below hb, y12.below hb, y13.below hb, y14.trans (hb.mono y14.size)⟩
                have mFq : ∀ {w' : World}, FFq w' → w4.heap.size ≤ w'.heap.size := by
                  intro w' h
                  obtain ⟨y0, y1, y2, y3, y4, y5, y6, y7, y8, y9, y10, y11, y12, y13, y14⟩ := (hFFq _).1 h
                  exact y14.size
                have sFq : ∀ {w' : World}, FFq w' → (w'.cell? ⟨wr.heap.size, 0, none⟩ = some (.bool m1x) ∧ w'.cell? ⟨wr.heap.size, 1, none⟩ = some (.slice o1x n1x c1x) ∧ w'.cell? ⟨wr.heap.size, 2, none⟩ = some (.slice p1x k1x d1x) ∧ w'.cell? ⟨wr.heap.size, 3, none⟩ = some (.bool m1y) ∧ w'.cell? ⟨wr.heap.size, 4, none⟩ = some (.slice o1y n1y c1y) ∧ w'.cell? ⟨wr.heap.size, 5, none⟩ = some (.slice p1y k1y d1y) ∧ w'.cell? ⟨b, o + i * 6, none⟩ = some (.bool m2x) ∧ w'.cell? ⟨b, o + i * 6 + 1, none⟩ = some (.slice o2x n2x c2x) ∧ w'.cell? ⟨b, o + i * 6 + 2, none⟩ = some (.slice p2x k2x d2x) ∧ w'.cell? ⟨b, o + i * 6 + 3, none⟩ = some (.bool m2y) ∧ w'.cell? ⟨b, o + i * 6 + 4, none⟩ = some (.slice o2y n2y c2y) ∧ w'.cell? ⟨b, o + i * 6 + 5, none⟩ = some (.slice p2y k2y d2y) ∧ w'.cell? ⟨gp, j * 3, none⟩ = some (.bool m3) ∧ w'.cell? ⟨gp, j * 3 + 1, none⟩ = some (.slice o3 n3 c3) ∧ w'.cell? ⟨gp, j * 3 + 2, none⟩ = some (.slice p3 k3 d3) ∧ w'.cell? ⟨gp, i * 3, none⟩ = some (.bool m4) ∧ w'.cell? ⟨gp, i * 3 + 1, none⟩ = some (.slice o4 n4 c4) ∧ w'.cell? ⟨gp, i * 3 + 2, none⟩ = some (.slice p4 k4 d4)) := by
                  intro w' h
                  obtain ⟨y0, y1, y2, y3, y4, y5, y6, y7, y8, y9, y10, y11, y12, y13, y14⟩ := (hFFq _).1 h
                  exact ⟨y2.c0, y2.c1, y2.c2, y2.c3, y2.c4, y2.c5, y7.c0, y7.c1, y7.c2, y7.c3, y7.c4, y7.c5, y5.c0, y5.c1, y5.c2, y6.c0, y6.c1, y6.c2⟩
                have zF : FFq w4.drew := (hFFq _).2 ⟨hB_5, hW_5, ps_4, sra_1, rowa_1, da_1, db_1, dn_1, f3_1, f4_1, f1x_1, f1y_1, f2x_1, f2y_1, hWq_1⟩
                clear hB_5 hW_5 ps_4 sra_1 rowa_1 da_1 db_1 dn_1 f3_1 f4_1 f1x_1 f1y_1 f2x_1 f2y_1 hWq_1
                refine wp_region_noPanic ?_
                refine wp_region_held_drew (S := fun w' => w'.cell? ⟨wr.heap.size, 0, none⟩ = some (.bool m1x) ∧ w'.cell? ⟨wr.heap.size, 1, none⟩ = some (.slice o1x n1x c1x) ∧ w'.cell? ⟨wr.heap.size, 2, none⟩ = some (.slice p1x k1x d1x) ∧ w'.cell? ⟨wr.heap.size, 3, none⟩ = some (.bool m1y) ∧ w'.cell? ⟨wr.heap.size, 4, none⟩ = some (.slice o1y n1y c1y) ∧ w'.cell? ⟨wr.heap.size, 5, none⟩ = some (.slice p1y k1y d1y) ∧ w'.cell? ⟨b, o + i * 6, none⟩ = some (.bool m2x) ∧ w'.cell? ⟨b, o + i * 6 + 1, none⟩ = some (.slice o2x n2x c2x) ∧ w'.cell? ⟨b, o + i * 6 + 2, none⟩ = some (.slice p2x k2x d2x) ∧ w'.cell? ⟨b, o + i * 6 + 3, none⟩ = some (.bool m2y) ∧ w'.cell? ⟨b, o + i * 6 + 4, none⟩ = some (.slice o2y n2y c2y) ∧ w'.cell? ⟨b, o + i * 6 + 5, none⟩ = some (.slice p2y k2y d2y) ∧ w'.cell? ⟨gp, j * 3, none⟩ = some (.bool m3) ∧ w'.cell? ⟨gp, j * 3 + 1, none⟩ = some (.slice o3 n3 c3) ∧ w'.cell? ⟨gp, j * 3 + 2, none⟩ = some (.slice p3 k3 d3) ∧ w'.cell? ⟨gp, i * 3, none⟩ = some (.bool m4) ∧ w'.cell? ⟨gp, i * 3 + 1, none⟩ = some (.slice o4 n4 c4) ∧ w'.cell? ⟨gp, i * 3 + 2, none⟩ = some (.slice p4 k4 d4)) (by kernel_rfl) (sFq zF) (fun hHeld => ?_)
                refine reg_take 0 ?_ ?_ ?_ (by kernel_rfl) (by kernel_rfl) (by kernel_rfl) (fun _ _ _ h => h) ?_ ?_ (by assumption) ?_
                rotate_left 2
                · simp only [List.getElem?_toArray, List.getElem?_cons_zero]; exact rfl
                · rfl
                · intro w hSw; (try dsimp only at hSw); go_simp; try with_reducible rfl
                try simp only [Act.put]
                try simp only [List.setIfInBounds_toArray, List.set_cons_zero, List.set_cons_succ]
                refine reg_take 1 ?_ ?_ ?_ (by kernel_rfl) (by kernel_rfl) (by kernel_rfl) (fun _ _ _ h => h) ?_ ?_ (by assumption) ?_
                rotate_left 2
                · simp only [List.getElem?_toArray, List.getElem?_cons_succ, List.getElem?_cons_zero]; exact rfl
                · rfl
                · intro w hSw; (try dsimp only at hSw); go_simp; try with_reducible rfl
                try simp only [Act.put]
                try simp only [List.setIfInBounds_toArray, List.set_cons_zero, List.set_cons_succ]
                refine reg_take 2 ?_ ?_ ?_ (by kernel_rfl) (by kernel_rfl) (by kernel_rfl) (fun _ _ _ h => h) ?_ ?_ (by assumption) ?_
                rotate_left 2
                · simp only [List.getElem?_toArray, List.getElem?_cons_succ, List.getElem?_cons_zero]; exact rfl
                · rfl
                · intro w hSw; (try dsimp only at hSw); go_simp; try with_reducible rfl
                try simp only [Act.put]
                try simp only [List.setIfInBounds_toArray, List.set_cons_zero, List.set_cons_succ]
                refine reg_take 3 ?_ ?_ ?_ (by kernel_rfl) (by kernel_rfl) (by kernel_rfl) (fun _ _ _ h => h) ?_ ?_ (by assumption) ?_
                rotate_left 2
                · simp only [List.getElem?_toArray, List.getElem?_cons_succ, List.getElem?_cons_zero]; exact rfl
                · rfl
                · intro w hSw; (try dsimp only at hSw); go_simp; try with_reducible rfl
                try simp only [Act.put]
                try simp only [List.setIfInBounds_toArray, List.set_cons_zero, List.set_cons_succ]
                refine reg_take 4 ?_ ?_ ?_ (by kernel_rfl) (by kernel_rfl) (by kernel_rfl) (fun _ _ _ h => h) ?_ ?_ (by assumption) ?_
                rotate_left 2
                · simp only [List.getElem?_toArray, List.getElem?_cons_succ, List.getElem?_cons_zero]; exact rfl
                · rfl
                · intro w hSw; (try dsimp only at hSw); go_simp; try with_reducible rfl
                try simp only [Act.put]
                try simp only [List.setIfInBounds_toArray, List.set_cons_zero, List.set_cons_succ]
                refine reg_take 5 ?_ ?_ ?_ (by kernel_rfl) (by kernel_rfl) (by kernel_rfl) (fun _ _ _ h => h) ?_ ?_ (by assumption) ?_
                rotate_left 2
                · simp only [List.getElem?_toArray, List.getElem?_cons_succ, List.getElem?_cons_zero]; exact rfl
                · rfl
                · intro w hSw; (try dsimp only at hSw); go_simp; try with_reducible rfl
                try simp only [Act.put]
                try simp only [List.setIfInBounds_toArray, List.set_cons_zero, List.set_cons_succ]
                refine reg_take 6 ?_ ?_ ?_ (by kernel_rfl) (by kernel_rfl) (by kernel_rfl) (fun _ _ _ h => h) ?_ ?_ (by assumption) ?_
                rotate_left 2
                · simp only [List.getElem?_toArray, List.getElem?_cons_succ, List.getElem?_cons_zero]; exact rfl
                · rfl
                · intro w hSw; (try dsimp only at hSw); go_simp; try with_reducible rfl
                try simp only [Act.put]
                try simp only [List.setIfInBounds_toArray, List.set_cons_zero, List.set_cons_succ]
                refine reg_take 7 ?_ ?_ ?_ (by kernel_rfl) (by kernel_rfl) (by kernel_rfl) (fun _ _ _ h => h) ?_ ?_ (by assumption) ?_
                rotate_left 2
                · simp only [List.getElem?_toArray, List.getElem?_cons_succ, List.getElem?_cons_zero]; exact rfl
                · rfl
                · intro w hSw; (try dsimp only at hSw); go_simp; try with_reducible rfl
                try simp only [Act.put]
                try simp only [List.setIfInBounds_toArray, List.set_cons_zero, List.set_cons_succ]
                refine reg_take 8 ?_ ?_ ?_ (by kernel_rfl) (by kernel_rfl) (by kernel_rfl) (fun _ _ _ h => h) ?_ ?_ (by assumption) ?_
                rotate_left 2
                · simp only [List.getElem?_toArray, List.getElem?_cons_succ, List.getElem?_cons_zero]; exact rfl
                · rfl
                · intro w hSw; (try dsimp only at hSw); go_simp; try with_reducible rfl
                try simp only [Act.put]
                try simp only [List.setIfInBounds_toArray, List.set_cons_zero, List.set_cons_succ]
                refine reg_take 9 ?_ ?_ ?_ (by kernel_rfl) (by kernel_rfl) (by kernel_rfl) (fun _ _ _ h => h) ?_ ?_ (by assumption) ?_
                rotate_left 2
                · simp only [List.getElem?_toArray, List.getElem?_cons_succ, List.getElem?_cons_zero]; exact rfl
                · rfl
                · intro w hSw; (try dsimp only at hSw); go_simp; try with_reducible rfl
                try simp only [Act.put]
                try simp only [List.setIfInBounds_toArray, List.set_cons_zero, List.set_cons_succ]
                refine reg_take 10 ?_ ?_ ?_ (by kernel_rfl) (by kernel_rfl) (by kernel_rfl) (fun _ _ _ h => h) ?_ ?_ (by assumption) ?_
                rotate_left 2
                · simp only [List.getElem?_toArray, List.getElem?_cons_succ, List.getElem?_cons_zero]; exact rfl
                · rfl
                · intro w hSw; (try dsimp only at hSw); go_simp; try with_reducible rfl
                try simp only [Act.put]
                try simp only [List.setIfInBounds_toArray, List.set_cons_zero, List.set_cons_succ]
                refine reg_take 11 ?_ ?_ ?_ (by kernel_rfl) (by kernel_rfl) (by kernel_rfl) (fun _ _ _ h => h) ?_ ?_ (by assumption) ?_
                rotate_left 2
                · simp only [List.getElem?_toArray, List.getElem?_cons_succ, List.getElem?_cons_zero]; exact rfl
                · rfl
                · intro w hSw; (try dsimp only at hSw); go_simp; try with_reducible rfl
                try simp only [Act.put]
                try simp only [List.setIfInBounds_toArray, List.set_cons_zero, List.set_cons_succ]
                refine reg_take 12 ?_ ?_ ?_ (by kernel_rfl) (by kernel_rfl) (by kernel_rfl) (fun _ _ _ h => h) ?_ ?_ (by assumption) ?_
                rotate_left 2
                · simp only [List.getElem?_toArray, List.getElem?_cons_succ, List.getElem?_cons_zero]; exact rfl
                · rfl
                · intro w hSw; (try dsimp only at hSw); go_simp; try with_reducible rfl
                try simp only [Act.put]
                try simp only [List.setIfInBounds_toArray, List.set_cons_zero, List.set_cons_succ]
                refine reg_take 13 ?_ ?_ ?_ (by kernel_rfl) (by kernel_rfl) (by kernel_rfl) (fun _ _ _ h => h) ?_ ?_ (by assumption) ?_
                rotate_left 2
                · simp only [List.getElem?_toArray, List.getElem?_cons_succ, List.getElem?_cons_zero]; exact rfl
                · rfl
                · intro w hSw; (try dsimp only at hSw); go_simp; try with_reducible rfl
                try simp only [Act.put]
                try simp only [List.setIfInBounds_toArray, List.set_cons_zero, List.set_cons_succ]
                refine reg_grab (fun WWq aq hWW hAA => ?_)
                rw [hWW]
                have HAq := Lib.hid hAA; clear hWW hAA hHeld
                obtain ⟨IVq, hIVq⟩ : ∃ IV : Array Bool → Act → World → Prop, ∀ l a w', IV l a w' ↔ ∀ CC : Prop, (∀ (lb14 lb15 : Bool) (lv14 lv15 : Value) (m5x : Bool) (o5x : Option Addr) (n5x : Nat) (c5x : Nat) (p5x : Option Addr) (k5x : Nat) (d5x : Nat) (m5y : Bool) (o5y : Option Addr) (n5y : Nat) (c5y : Nat) (p5y : Option Addr) (k5y : Nat) (d5y : Nat) (gpz : Nat), (l = #[true, true, true, true, true, true, true, true, true, true, true, true, true, true, lb14, lb15, false, false]) → (a = ((aq.put (some 73) lv14).put (some 74) lv15)) → (FFq w') → ((lb14 = true → lv14 = .agg #[.bool m5x, .slice o5x n5x c5x, .slice p5x k5x d5x, .bool m5y, .slice o5y n5y c5y, .slice p5y k5y d5y] ∧ RF w' (.agg #[.bool m5x, .slice o5x n5x c5x, .slice p5x k5x d5x]) (L + (((((Lh + L + 2) + (Lh + L + 2) + 2) + Lh + 2) + ((((Lh + L + 2) + (Lh + L + 2) + 2) + Lh + 2) + (((Lh + L + 2) + (Lh + L + 2) + 2) + Lh + 2) + 2) + 3) + (L + L + 2) + 2) + 2) (x + U / (U - V) * (x' - x)) ∧ RF w' (.agg #[.bool m5y, .slice o5y n5y c5y, .slice p5y k5y d5y]) (L + (((((Lh + L + 2) + (Lh + L + 2) + 2) + Lh + 2) + ((((Lh + L + 2) + (Lh + L + 2) + 2) + Lh + 2) + (((Lh + L + 2) + (Lh + L + 2) + 2) + Lh + 2) + 2) + 3) + (L + L + 2) + 2) + 2) (y + U / (U - V) * (y' - y)))) → ((lb15 = true → lv15 = .slice (some ⟨gpz, 0, none⟩) 1 1 ∧ Box w' gpz [.bool m5x, .slice o5x n5x c5x, .slice p5x k5x d5x, .bool m5y, .slice o5y n5y c5y, .slice p5y k5y d5y] ∧ w4.heap.size ≤ gpz)) → ((lb15 = true → lb14 = true)) → CC) → CC := ⟨_, fun _ _ _ => Iff.rfl⟩
                refine wpAnyH_until IVq ?_ _ _ _ _ ((hIVq _ _ _).2 (fun CC kk => kk false false (aq.tmps.getD 73 undef) (aq.tmps.getD 74 undef) false none 0 0 none 0 0 false none 0 0 none 0 0 0 rfl (by simp only [put_same]) zF (fun h => by cases h) (fun h => by cases h) (fun h => by cases h))) (by kernel_rfl)
                clear zF
                intro ll aa w5 hI
                refine (hIVq _ _ _).1 hI _ ?_
                clear hI
                intro lb14 lb15 lv14 lv15 m5x o5x n5x c5x p5x k5x d5x m5y o5y n5y c5y p5y k5y d5y gpz hll haa zF F14 F15 dp15_14
                subst hll haa
                by_cases hL : lb14 = true ∧ lb15 = true
                · left
                  obtain ⟨rfl, rfl⟩ := hL
                  obtain ⟨rfl, f5x_0, f5y_0⟩ := F14 rfl
                  clear F14
                  obtain ⟨rfl, pz_0, hgpz⟩ := F15 rfl
                  clear F15
                  clear dp15_14
                  show wpAnyH _ _ _ _ _ 2 _ _ _
                  rw [HAq.out]
                  try simp only [Act.put]
                  try simp only [List.setIfInBounds_toArray, List.set_cons_zero, List.set_cons_succ]
                  obtain ⟨hB_0, hW_0, ps_0, sra_0, rowa_0, da_0, db_0, dn_0, f3_0, f4_0, f1x_0, f1y_0, f2x_0, f2y_0, hWq_0⟩ := (hFFq _).1 zF
                  clear zF
                  clear hWq_0
                  refine reg_call 16 ?_ (by kernel_rfl) ?_ (fun K hK => ?_)
                  rotate_left 1
                  · simp only [List.getElem?_toArray, List.getElem?_cons_succ, List.getElem?_cons_zero]; exact rfl
                  refine wanted_go rfl ?_
                  have hpzl := pz_0.lt
                  have hzps := ps_0.lt
                  have hzpz := pz_0.lt
                  obtain ⟨v2, wa, hrun, rowan, hgrow, hkept, hnew⟩ := run_append_row' (P := Try.prog) w5 (wo.heap.size) 32 32 42 j0 (.agg #[.bool false, .slice none 0 0, .slice none 0 0, .bool false, .slice none 0 0, .slice none 0 0]) 6 112 (by kernel_rfl) Hj.out Hj0.out Hj1.out Hj2.out rfl (noWord6 _ _ _ _ _ _ _ _ _ _ _ _ _ _) v m ys rowa_0 ⟨gpz, 0, none⟩ 1 1 [.bool m5x, .slice o5x n5x c5x, .slice p5x k5x d5x, .bool m5y, .slice o5y n5y c5y, .slice p5y k5y d5y] (by omega) rfl pz_0.news (by intro u hu; simp at hu; rcases hu with rfl | rfl | rfl | rfl | rfl | rfl <;> rfl) (noWord6 _ _ _ _ _ _ _ _ _ _ _ _ _ _) (by unfold maxLen; omega) (by omega) (by have := hW_0.size; omega)
                  refine wp_append_row _ _ 32 rfl rfl rfl hrun ?_
                  clear rowa_0 hrun
                  have hB_1 := hB_0.grown hgrow (by have := hB_0.size; omega) (fun k hk => by have := hrl2 k hk; omega)
                  have hW_1 := hW_0.grown hgrow (by have := hW_0.size; omega) (fun k hk => by have := hrl2 k hk; omega)
                  have ps_1 := ps_0.grown hgrow (fun e => by have := hrl2 _ e; have := HNEW _ e; omega) ps_0.lt
                  have sra_1 := sra_0.kept hkept
                  have da_1 := da_0.grown hgrow (fun e => by have := hrl2 _ e; omega)
                  have db_1 := db_0.grown hgrow (fun e => by have := hrl2 _ e; omega)
                  have dn_1 := dn_0.grown hgrow (fun e => by have := hrl2 _ e; omega)
                  have f3_1 := f3_0.kept hkept
                  have f4_1 := f4_0.kept hkept
                  have f1x_1 := f1x_0.kept hkept
                  have f1y_1 := f1y_0.kept hkept
                  have f2x_1 := f2x_0.kept hkept
                  have f2y_1 := f2y_0.kept hkept
                  have f5x_1 := f5x_0.kept hkept
                  have f5y_1 := f5y_0.kept hkept
                  have pz_1 := pz_0.grown hgrow (fun e => by have := hrl2 _ e; have := hpzl; omega) pz_0.lt
                  clear hB_0 hW_0 ps_0 sra_0 da_0 db_0 dn_0 f3_0 f4_0 f1x_0 f1y_0 f2x_0 f2y_0 f5x_0 f5y_0 pz_0
                  clear hgrow hkept
                  refine hK.out _ _ ⟨ps_1.c0, ps_1.c1, ps_1.c2, ps_1.c3, ps_1.c4, ps_1.c5, dn_1.c0, dn_1.c1, dn_1.c2, dn_1.c3, dn_1.c4, dn_1.c5, da_1.c0, da_1.c1, da_1.c2, db_1.c0, db_1.c1, db_1.c2⟩ (fun hHeld => ?_)
                  clear hK K
                  try simp only [Act.put]
                  try simp only [List.setIfInBounds_toArray, List.set_cons_zero, List.set_cons_succ]
                  refine reg_take 17 ?_ ?_ ?_ (by kernel_rfl) (by kernel_rfl) (by kernel_rfl) (fun _ _ _ h => h) ?_ ?_ (by assumption) ?_
                  rotate_left 2
                  · simp only [List.getElem?_toArray, List.getElem?_cons_succ, List.getElem?_cons_zero]; exact rfl
                  · rfl
                  · intro w hSw; (try dsimp only at hSw); go_simp; try with_reducible rfl
                  try simp only [Act.put]
                  try simp only [List.setIfInBounds_toArray, List.set_cons_zero, List.set_cons_succ]
                  refine wpAnyH_done (by kernel_rfl) ?_ _
                  refine NoPanic.normal ?_
                  go_wp2
                  have hcut : cutAt haq hbq hcq (x, y) (x', y') = [] ++ [(x + U / (U - V) * (x' - x), y + U / (U - V) * (y' - y))] := by
                    unfold cutAt crossPt; rw [HU.out, HV.out, if_neg (fun h => by have h1 := HLE.out.2 h; have h2 := HC0.out; omega), if_pos (HMU.out.1 HX.out)]; rfl
                  have hO2 : outL haq hbq hcq l (j + 1) = outL haq hbq hcq l j ++ [(x + U / (U - V) * (x' - x), y + U / (U - V) * (y' - y))] := by rw [HO.out, hcut, List.nil_append]
                  refine ⟨⟨j + 1, _, _, m + 1, by omega, by go_num, rfl, rowan, ?_, ?_, hB_1, hW_1⟩, by simp [intOf]; omega⟩
                  · rw [hO2]; exact sra_1.append (SrR.one f5x_1 f5y_1)
                  · rw [hO2]; simp [HM.out]
                · right
                  refine ⟨?_, fun i hi => ?_⟩
                  · clear zF F14 F15
                    cases lb14
                    · exact ready_of 14 _ rfl rfl (by kernel_rfl)
                    cases lb15
                    · exact ready_of 15 _ rfl rfl (by kernel_rfl)
                    exact absurd ⟨rfl, rfl⟩ hL
                  have hd : (lb14 = false ∧ i = 14) ∨ (lb15 = false ∧ lb14 = true ∧ i = 15) := by
                    have hin := ready_lt hi
                    obtain rfl | rfl | rfl | rfl | rfl | rfl | rfl | rfl | rfl | rfl | rfl | rfl | rfl | rfl | rfl | rfl | rfl | rfl : i = 0 ∨ i = 1 ∨ i = 2 ∨ i = 3 ∨ i = 4 ∨ i = 5 ∨ i = 6 ∨ i = 7 ∨ i = 8 ∨ i = 9 ∨ i = 10 ∨ i = 11 ∨ i = 12 ∨ i = 13 ∨ i = 14 ∨ i = 15 ∨ i = 16 ∨ i = 17 := by have hin' : i < 18 := hin; omega
                    · exact absurd (ready_off hi) (fun h => Bool.noConfusion (show true = false from h))
                    · exact absurd (ready_off hi) (fun h => Bool.noConfusion (show true = false from h))
                    · exact absurd (ready_off hi) (fun h => Bool.noConfusion (show true = false from h))
                    · exact absurd (ready_off hi) (fun h => Bool.noConfusion (show true = false from h))
                    · exact absurd (ready_off hi) (fun h => Bool.noConfusion (show true = false from h))
                    · exact absurd (ready_off hi) (fun h => Bool.noConfusion (show true = false from h))
                    · exact absurd (ready_off hi) (fun h => Bool.noConfusion (show true = false from h))
                    · exact absurd (ready_off hi) (fun h => Bool.noConfusion (show true = false from h))
                    · exact absurd (ready_off hi) (fun h => Bool.noConfusion (show true = false from h))
                    · exact absurd (ready_off hi) (fun h => Bool.noConfusion (show true = false from h))
                    · exact absurd (ready_off hi) (fun h => Bool.noConfusion (show true = false from h))
                    · exact absurd (ready_off hi) (fun h => Bool.noConfusion (show true = false from h))
                    · exact absurd (ready_off hi) (fun h => Bool.noConfusion (show true = false from h))
                    · exact absurd (ready_off hi) (fun h => Bool.noConfusion (show true = false from h))
                    · exact .inl ⟨ready_off hi, rfl⟩
                    · exact .inr (⟨ready_off hi, ready_dep (d := 14) hi (by kernel_rfl), rfl⟩)
                    · have k15 : lb15 = true := ready_dep (d := 15) hi (by kernel_rfl); have k14 : lb14 = true := ready_dep (d := 14) hi (by kernel_rfl)
                      exact absurd ⟨k14, k15⟩ hL
                    · exact absurd (ready_dep (d := 16) hi (by kernel_rfl)) (fun h => Bool.noConfusion (show false = true from h))
                  clear hi hL
                  rcases hd with ⟨rfl, rfl⟩ | ⟨rfl, rfl, rfl⟩
                  · obtain ⟨-, -, -, -, -, -, -, -, f3_0, f4_0, f1x_0, f1y_0, f2x_0, f2y_0, -⟩ := (hFFq _).1 zF
                    refine step_of 14 ?_ ?_ (fun K hK => ?_)
                    rotate_left 1
                    · simp only [List.getElem?_toArray, List.getElem?_cons_succ, List.getElem?_cons_zero]; exact rfl
                    rw [HAq.out]
                    try simp only [Act.put]
                    try simp only [List.setIfInBounds_toArray, List.set_cons_zero, List.set_cons_succ]
                    go_simp
                    refine (cCrossing_any L x y L x' y' (((Lh + L + 2) + (Lh + L + 2) + 2) + Lh + 2) U (((Lh + L + 2) + (Lh + L + 2) + 2) + Lh + 2) V _ (by omega) (by omega) (by omega) (by omega) f1x_0.q f1y_0.q f2x_0.q f2y_0.q f3_0.q f4_0.q HUV.out).mono ?_
                    rintro e w6 ⟨m5x, o5x, n5x, c5x, p5x, k5x, d5x, m5y, o5y, n5y, c5y, p5y, k5y, d5y, rfl, f5x_0, f5y_0, hb⟩
                    go_wp2_with fail
                    refine hK.out _ _ (sFq (cFq zF hb)) ?_
                    exact (hIVq _ _ _).2 (fun CC kk => kk true lb15 (.agg #[.bool m5x, .slice o5x n5x c5x, .slice p5x k5x d5x, .bool m5y, .slice o5y n5y c5y, .slice p5y k5y d5y]) lv15 m5x o5x n5x c5x p5x k5x d5x m5y o5y n5y c5y p5y k5y d5y gpz rfl (by simp only [HAq.out, Act.put, List.setIfInBounds_toArray, List.set_cons_zero, List.set_cons_succ]) (cFq zF hb) (fun _ => ⟨rfl, f5x_0, f5y_0⟩) (fun h => absurd (dp15_14 h) (by decide)) (fun _ => rfl))
                  · obtain ⟨rfl, f5x_0, f5y_0⟩ := F14 rfl
                    clear F14
                    refine step_of 15 ?_ ?_ (fun K hK => ?_)
                    rotate_left 1
                    · simp only [List.getElem?_toArray, List.getElem?_cons_succ, List.getElem?_cons_zero]; exact rfl
                    rw [HAq.out]
                    try simp only [Act.put]
                    try simp only [List.setIfInBounds_toArray, List.set_cons_zero, List.set_cons_succ]
                    go_simp
                    have hgn := mFq zF
                    obtain ⟨wn, hwn, pz_0, hb, -⟩ := new_box w5 _ rfl [.bool m5x, .slice o5x n5x c5x, .slice p5x k5x d5x, .bool m5y, .slice o5y n5y c5y, .slice p5y k5y d5y] 42
                    rw [hwn]
                    refine hK.out _ _ (sFq (cFq zF hb)) ?_
                    exact (hIVq _ _ _).2 (fun CC kk => kk true true _ (.slice (some ⟨w5.heap.size, 0, none⟩) 1 1) m5x o5x n5x c5x p5x k5x d5x m5y o5y n5y c5y p5y k5y d5y w5.heap.size rfl (by simp only [HAq.out, Act.put, List.setIfInBounds_toArray, List.set_cons_zero, List.set_cons_succ]) (cFq zF hb) (fun _ => ⟨rfl, f5x_0.below hb, f5y_0.below hb⟩) (fun _ => ⟨rfl, pz_0, hgn⟩) (fun _ => rfl))
              · have HX := Lib.hid hx
                have hrl2 := hrl
                have HNEW : ∀ g, v.ownBlock = some g → g ≠ wr.heap.size := fun g hg => by have := hrl g hg; omega
                have sra_0 := sr_4; clear sr_4
                have rowa_0 := row_4; clear row_4
                go_wp2
                have hcut : cutAt haq hbq hcq (x, y) (x', y') = [] := by
                  unfold cutAt crossPt; rw [HU.out, HV.out, if_neg (fun h => by have h1 := HLE.out.2 h; have h2 := HC0.out; omega), if_neg (fun h => by have h1 := HMU.out.2 h; have h2 := HX.out; omega)]; rfl
                have hO2 : outL haq hbq hcq l (j + 1) = outL haq hbq hcq l j := by rw [HO.out, hcut]; exact List.append_nil _
                refine ⟨⟨j + 1, _, _, m, by omega, by go_num, rfl, rowa_0, ?_, ?_, hB_4, hW_4⟩, by simp [intOf]; omega⟩
                · rw [hO2]; exact sra_0
                · rw [hO2]; simp [HM.out]
          · obtain rfl : j = k := by omega
            have hQ : outL haq hbq hcq l j = cutQ haq hbq hcq l := by rw [← hn]; exact outL_all _ _ _ _
            have hm := HM.out
            rw [hQ] at sr_0 hm
            obtain ⟨vo, vc, rfl, hsv⟩ := sr_0.spotsR row_0 hm
            have hfresh : ∀ a, vo = some a → w.heap.size ≤ a.block := fun a ha => by have h1 := row_0.lt a.block (by rw [ha]; rfl); omega
            clear row_0 sr_0
            by_cases hm3 : m < 3
            · have hcl : clipP haq hbq hcq l = [] := by unfold clipP; rw [if_pos (by omega)]
              have hm3' : (m : Int) < 3 := by omega
              go_wp2
              go_ret
              try rw [hcl]
              exact ⟨none, 0, rfl, SpotsR.nil _ _ _, fun a ha => (by cases ha), hB_0⟩
            · have hcl : clipP haq hbq hcq l = cutQ haq hbq hcq l := by unfold clipP; rw [if_neg (by omega)]
              have hm3' : ¬ (m : Int) < 3 := by omega
              go_wp2
              go_ret
              try rw [hcl]
              exact ⟨vo, vc, by rw [hm]; rfl, hsv, hfresh, hB_0⟩
end Go.Proofs.Ytdfabocecpcmcaa
/- The calls of clip: Convex; the statements' within. -/
namespace Go.Proofs.Ytdfabocecpcmcaa
open Go.RowKit Go.MagM
theorem step_mod1 (k n : Nat) : ((k : Int) + 1).tmod (n : Int) = (((k + 1) % n : Nat) : Int) := by
  rw [show (k : Int) + 1 = ((k + 1 : Nat) : Int) by omega]; exact (Int.ofNat_tmod _ _).symm
theorem step_mod2 (k n : Nat) : ((k : Int) + 2).tmod (n : Int) = (((k + 2) % n : Nat) : Int) := by
  rw [show (k : Int) + 2 = ((k + 2 : Nat) : Int) by omega]; exact (Int.ofNat_tmod _ _).symm
theorem at_cor {l : List (Rat × Rat)} {i : Nat} {p : Rat × Rat} (h : l[i % l.length]? = some p) : cor l i = p := by
  have := cor_at (List.getElem?_eq_some_iff.1 h).1; rw [h, cor_mod] at this; exact (Option.some.inj this).symm
theorem at_cor0 {l : List (Rat × Rat)} {i : Nat} {p : Rat × Rat} (h : l[i]? = some p) : cor l i = p := by
  have := cor_at (List.getElem?_eq_some_iff.1 h).1; rw [h] at this; exact (Option.some.inj this).symm
theorem conv_left {l : List (Rat × Rat)} (h : Conv l) {k : Nat} (hk : k < l.length) {a b c : Rat × Rat} (ha : l[k]? = some a) (hb : l[(k + 1) % l.length]? = some b) (hc : l[(k + 2) % l.length]? = some c) : sideQ a.1 a.2 b.1 b.2 c.1 c.2 = 1 := by
  rw [side_cross, ← at_cor0 ha, ← at_cor hb, ← at_cor hc]
  refine qcmp_gt ?_
  have h3 := h.1
  have hm := Nat.mod_lt (k + 2) (show 0 < l.length by omega)
  rw [← cor_mod l (k + 2)]
  refine h.2 k _ hk hm ?_ ?_
  · rcases Nat.lt_or_ge (k + 2) l.length with g | g
    · rw [Nat.mod_eq_of_lt g]; omega
    · rw [Nat.mod_eq_sub_mod g, Nat.mod_eq_of_lt (by omega)]; omega
  · rcases Nat.lt_or_ge (k + 2) l.length with g | g
    · rw [Nat.mod_eq_of_lt g, Nat.mod_eq_of_lt (show k + 1 < l.length by omega)]; omega
    · rw [Nat.mod_eq_sub_mod g, Nat.mod_eq_of_lt (show k + 2 - l.length < l.length by omega)]
      rcases Nat.lt_or_ge (k + 1) l.length with g1 | g1
      · rw [Nat.mod_eq_of_lt g1]; omega
      · rw [Nat.mod_eq_sub_mod g1, Nat.mod_eq_of_lt (show k + 1 - l.length < l.length by omega)]; omega
theorem rise_is {l : List (Rat × Rat)} {k : Nat} {x y x' y' x2 y2 : Rat} (ha : l[k]? = some (x, y)) (hb : l[(k + 1) % l.length]? = some (x', y')) (hc : l[(k + 2) % l.length]? = some (x2, y2)) : riseQ l k ↔ y' ≤ y ∧ y' < y2 := by
  unfold riseQ; rw [at_cor0 ha, at_cor hb, at_cor hc]
theorem qcmp_ge {p q : Rat} : 0 ≤ qcmp p q ↔ q ≤ p := by
  rcases qcmp_cases p q with ⟨h, e⟩ | ⟨h, e⟩ | ⟨h, e⟩ <;> rw [e] <;> constructor <;> intro k <;> first | grind | (exact absurd k (by decide)) | decide
theorem qcmp_neg' {p q : Rat} : qcmp p q < 0 ↔ p < q := by
  rcases qcmp_cases p q with ⟨h, e⟩ | ⟨h, e⟩ | ⟨h, e⟩ <;> rw [e] <;> constructor <;> intro k <;> first | grind | (exact absurd k (by decide)) | decide
set_option maxRecDepth 100000 in
set_option maxHeartbeats 16000000 in
theorem cConvex_yes (ao : Option Addr) (n c : Nat) (l : List (Rat × Rat)) (L : Nat) (w : World) (hn : l.length = n) (hn9 : n ≤ 1000) (hL : L ≤ 1000) (hsp : SpotsR w ao L l) (hc : Conv0 l) :
    Calls Try.prog 14 #[.slice ao n c] w fun e w' => e = .returned (.bool true) ∧ Below w.heap.size w w' := by
  have hB_0 := Below.refl w.heap.size w
  have SP := Lib.hid hsp; have HC := Lib.hid hc; clear hsp hc
  go_enter Try.func14, Try.ntmps14
  go_wp2
  go_loopw [3, 10] (fun rv iv wr => ∃ k : Nat, k ≤ n ∧ iv = .int .i64 k ∧ rv = .int .i64 (cntR l k : Nat) ∧ Below w.heap.size w wr) (fun _ iv _ => n - (intOf iv).toNat)
  case atStart => exact ⟨0, Nat.zero_le _, rfl, rfl, hB_0⟩
  case round =>
    obtain ⟨k, hk, rfl, rfl, hB_0⟩ := hrel
    have hcl := cnt_le l k
    by_cases hlt : k < n
    · have hcv : Conv l := by
        rcases HC.out with h | h
        · subst h; simp at hn; omega
        · exact h
      have h3 := hcv.1
      obtain ⟨j, hj⟩ : ∃ j, (k + 1) % n = j := ⟨_, rfl⟩
      have hjn : j < n := by rw [← hj]; exact Nat.mod_lt _ (by omega)
      obtain ⟨i, hi⟩ : ∃ i, (k + 2) % n = i := ⟨_, rfl⟩
      have hin : i < n := by rw [← hi]; exact Nat.mod_lt _ (by omega)
      obtain ⟨x, y, hlk⟩ : ∃ x y, l[k]? = some (x, y) := ⟨_, _, List.getElem?_eq_getElem (by omega)⟩
      obtain ⟨x', y', hlj⟩ : ∃ x y, l[j]? = some (x, y) := ⟨_, _, List.getElem?_eq_getElem (by omega)⟩
      obtain ⟨x2, y2, hli⟩ : ∃ x y, l[i]? = some (x, y) := ⟨_, _, List.getElem?_eq_getElem (by omega)⟩
      obtain ⟨b, o, m1x, o1x, n1x, c1x, p1x, k1x, d1x, m1y, o1y, n1y, c1y, p1y, k1y, d1y, hao, da, r1x, r1y⟩ := SP.out k x y hlk
      obtain ⟨b', o', m2x, o2x, n2x, c2x, p2x, k2x, d2x, m2y, o2y, n2y, c2y, p2y, k2y, d2y, hao', db, r2x, r2y⟩ := SP.out j x' y' hlj
      obtain ⟨b2, o2, m3x, o3x, n3x, c3x, p3x, k3x, d3x, m3y, o3y, n3y, c3y, p3y, k3y, d3y, hao2, dc, r3x, r3y⟩ := SP.out i x2 y2 hli
      subst hao
      simp at hao' hao2
      obtain ⟨rfl, rfl⟩ := hao'
      obtain ⟨rfl, rfl⟩ := hao2
      have hmod : ((k : Int) + 1).tmod (n : Int) = (j : Int) := by rw [step_mod1, hj]
      have hmod2 : ((k : Int) + 2).tmod (n : Int) = (i : Int) := by rw [step_mod2, hi]
      have hk0 : ((n : Int) == 0) = false := by simp; omega
      have hkn : ¬ n = 0 := by omega
      have hwj : IntKind.i64.wrap ((k : Int) + 1) = (k : Int) + 1 := by rw [IntKind.wrap_i64]; omega
      have hwi : IntKind.i64.wrap ((k : Int) + 2) = (k : Int) + 2 := by rw [IntKind.wrap_i64]; omega
      have hwc : IntKind.i64.wrap ((cntR l k : Int) + 1) = (cntR l k : Int) + 1 := by rw [IntKind.wrap_i64]; omega
      have hb1 : (0 : Int) ≤ (k : Int) := by omega
      have hb2 : (k : Int) < (n : Int) := by omega
      have hb3 : (0 : Int) ≤ (j : Int) := by omega
      have hb4 : (j : Int) < (n : Int) := by omega
      have hb5 : (0 : Int) ≤ (i : Int) := by omega
      have hb6 : (i : Int) < (n : Int) := by omega
      have hS : sideQ x y x' y' x2 y2 = 1 := conv_left hcv (by omega) hlk (by rw [hn, hj]; exact hlj) (by rw [hn, hi]; exact hli)
      have hR : riseQ l k ↔ y' ≤ y ∧ y' < y2 := rise_is hlk (by rw [hn, hj]; exact hlj) (by rw [hn, hi]; exact hli)
      obtain ⟨c1, hc1⟩ : ∃ c, qcmp y y' = c := ⟨_, rfl⟩
      obtain ⟨c2, hc2⟩ : ∃ c, qcmp y' y2 = c := ⟨_, rfl⟩
      rw [← qcmp_ge (p := y), ← qcmp_neg' (p := y'), hc1, hc2] at hR
      have HS := Lib.hid hS; have HR := Lib.hid hR; have HC1 := Lib.hid hc1; have HC2 := Lib.hid hc2
      have DB := Lib.hid db; have DC := Lib.hid dc
      have hgb := World.block_lt_of_cell? w _ da.c0
      simp only at hgb
      have hws := hB_0.size
      clear hS hR hc1 hc2 hlk hlj hli hj hi hcv db dc
      obtain ⟨ee0, ee1, ee2, ee3, ee4, ee5⟩ := da.below hB_0
      have f1x_0 := r1x.below hB_0
      have f1y_0 := r1y.below hB_0
      have f2x_0 := r2x.below hB_0
      have f2y_0 := r2y.below hB_0
      have f3x_0 := r3x.below hB_0
      have f3y_0 := r3y.below hB_0
      clear r1x r1y r2x r2y r3x r3y
      have hl1B := hB_0.size
      obtain ⟨w1, hw1, pa_0, hb1, hs1⟩ := new_box wr (wr.heap.size) rfl [.bool m1x, .slice o1x n1x c1x, .slice p1x k1x d1x, .bool m1y, .slice o1y n1y c1y, .slice p1y k1y d1y] 42
      have hb1' : Below wr.heap.size wr w1 := hb1.mono (by omega)
      clear hb1
      have hB_1 := hB_0.trans (hb1'.mono hB_0.size)
      have f1x_1 := f1x_0.below hb1'
      have f1y_1 := f1y_0.below hb1'
      have f2x_1 := f2x_0.below hb1'
      have f2y_1 := f2y_0.below hb1'
      have f3x_1 := f3x_0.below hb1'
      have f3y_1 := f3y_0.below hb1'
      clear hb1' hB_0 f1x_0 f1y_0 f2x_0 f2y_0 f3x_0 f3y_0
      go_wp2
      try rw [hw1]
      clear ee0 ee1 ee2 ee3 ee4 ee5 da
      have db_0 := DB.out.below hB_1; have dc_0 := DC.out.below hB_1
      have hWq_0 := Below.refl w1.heap.size w1
      have hsq : w.heap.size ≤ w1.heap.size := hB_1.size
      have hlqpa := pa_0.lt
      have hB_2 := hB_1.drew'
      have f1x_2 := f1x_1.drew
      have f1y_2 := f1y_1.drew
      have f2x_2 := f2x_1.drew
      have f2y_2 := f2y_1.drew
      have f3x_2 := f3x_1.drew
      have f3y_2 := f3y_1.drew
      have pa_1 := pa_0.drew
      have db_1 := db_0.drew
      have dc_1 := dc_0.drew
      have hWq_1 := hWq_0.drew'
      clear hB_1 f1x_1 f1y_1 f2x_1 f2y_1 f3x_1 f3y_1 pa_0 db_0 dc_0 hWq_0
      obtain ⟨FFq, hFFq⟩ : ∃ F : World → Prop, ∀ w', F w' ↔ (Below w.heap.size w w' ∧ RF w' (.agg #[.bool m1x, .slice o1x n1x c1x, .slice p1x k1x d1x]) L (x) ∧ RF w' (.agg #[.bool m1y, .slice o1y n1y c1y, .slice p1y k1y d1y]) L (y) ∧ RF w' (.agg #[.bool m2x, .slice o2x n2x c2x, .slice p2x k2x d2x]) L (x') ∧ RF w' (.agg #[.bool m2y, .slice o2y n2y c2y, .slice p2y k2y d2y]) L (y') ∧ RF w' (.agg #[.bool m3x, .slice o3x n3x c3x, .slice p3x k3x d3x]) L (x2) ∧ RF w' (.agg #[.bool m3y, .slice o3y n3y c3y, .slice p3y k3y d3y]) L (y2) ∧ Box w' (wr.heap.size) [.bool m1x, .slice o1x n1x c1x, .slice p1x k1x d1x, .bool m1y, .slice o1y n1y c1y, .slice p1y k1y d1y] ∧ At6 w' b (o + j * 6) (.bool m2x) (.slice o2x n2x c2x) (.slice p2x k2x d2x) (.bool m2y) (.slice o2y n2y c2y) (.slice p2y k2y d2y) ∧ At6 w' b (o + i * 6) (.bool m3x) (.slice o3x n3x c3x) (.slice p3x k3x d3x) (.bool m3y) (.slice o3y n3y c3y) (.slice p3y k3y d3y) ∧ Below w1.heap.size w1 w') := ⟨_, fun _ => Iff.rfl⟩
      have cFq : ∀ {w' w'' : World}, FFq w' → Below w'.heap.size w' w'' → FFq w'' := by
        intro w' w'' h hb
        obtain ⟨y0, y1, y2, y3, y4, y5, y6, y7, y8, y9, y10⟩ := (hFFq _).1 h
        exact (hFFq _).2 ⟨y0.trans (hb.mono y0.size), y1.below hb, y2.below hb, y3.below hb, y4.below hb, y5.below hb, y6.below hb, y7.below hb, y8.below hb, y9.below hb, y10.trans (hb.mono y10.size)⟩
      have mFq : ∀ {w' : World}, FFq w' → w1.heap.size ≤ w'.heap.size := by
        intro w' h
        obtain ⟨y0, y1, y2, y3, y4, y5, y6, y7, y8, y9, y10⟩ := (hFFq _).1 h
        exact y10.size
      have sFq : ∀ {w' : World}, FFq w' → (w'.cell? ⟨b, o + j * 6, none⟩ = some (.bool m2x) ∧ w'.cell? ⟨b, o + j * 6 + 1, none⟩ = some (.slice o2x n2x c2x) ∧ w'.cell? ⟨b, o + j * 6 + 2, none⟩ = some (.slice p2x k2x d2x) ∧ w'.cell? ⟨b, o + j * 6 + 3, none⟩ = some (.bool m2y) ∧ w'.cell? ⟨b, o + j * 6 + 4, none⟩ = some (.slice o2y n2y c2y) ∧ w'.cell? ⟨b, o + j * 6 + 5, none⟩ = some (.slice p2y k2y d2y) ∧ w'.cell? ⟨b, o + i * 6, none⟩ = some (.bool m3x) ∧ w'.cell? ⟨b, o + i * 6 + 1, none⟩ = some (.slice o3x n3x c3x) ∧ w'.cell? ⟨b, o + i * 6 + 2, none⟩ = some (.slice p3x k3x d3x) ∧ w'.cell? ⟨b, o + i * 6 + 3, none⟩ = some (.bool m3y) ∧ w'.cell? ⟨b, o + i * 6 + 4, none⟩ = some (.slice o3y n3y c3y) ∧ w'.cell? ⟨b, o + i * 6 + 5, none⟩ = some (.slice p3y k3y d3y)) := by
        intro w' h
        obtain ⟨y0, y1, y2, y3, y4, y5, y6, y7, y8, y9, y10⟩ := (hFFq _).1 h
        exact ⟨y8.c0, y8.c1, y8.c2, y8.c3, y8.c4, y8.c5, y9.c0, y9.c1, y9.c2, y9.c3, y9.c4, y9.c5⟩
      have zF : FFq w1.drew := (hFFq _).2 ⟨hB_2, f1x_2, f1y_2, f2x_2, f2y_2, f3x_2, f3y_2, pa_1, db_1, dc_1, hWq_1⟩
      clear hB_2 f1x_2 f1y_2 f2x_2 f2y_2 f3x_2 f3y_2 pa_1 db_1 dc_1 hWq_1
      refine wp_region_noPanic ?_
      refine wp_region_held_drew (S := fun w' => w'.cell? ⟨b, o + j * 6, none⟩ = some (.bool m2x) ∧ w'.cell? ⟨b, o + j * 6 + 1, none⟩ = some (.slice o2x n2x c2x) ∧ w'.cell? ⟨b, o + j * 6 + 2, none⟩ = some (.slice p2x k2x d2x) ∧ w'.cell? ⟨b, o + j * 6 + 3, none⟩ = some (.bool m2y) ∧ w'.cell? ⟨b, o + j * 6 + 4, none⟩ = some (.slice o2y n2y c2y) ∧ w'.cell? ⟨b, o + j * 6 + 5, none⟩ = some (.slice p2y k2y d2y) ∧ w'.cell? ⟨b, o + i * 6, none⟩ = some (.bool m3x) ∧ w'.cell? ⟨b, o + i * 6 + 1, none⟩ = some (.slice o3x n3x c3x) ∧ w'.cell? ⟨b, o + i * 6 + 2, none⟩ = some (.slice p3x k3x d3x) ∧ w'.cell? ⟨b, o + i * 6 + 3, none⟩ = some (.bool m3y) ∧ w'.cell? ⟨b, o + i * 6 + 4, none⟩ = some (.slice o3y n3y c3y) ∧ w'.cell? ⟨b, o + i * 6 + 5, none⟩ = some (.slice p3y k3y d3y)) (by kernel_rfl) (sFq zF) (fun hHeld => ?_)
      refine reg_take 0 ?_ ?_ ?_ (by kernel_rfl) (by kernel_rfl) (by kernel_rfl) (fun _ _ _ h => h) ?_ ?_ (by assumption) ?_
      rotate_left 2
      · simp only [List.getElem?_toArray, List.getElem?_cons_zero]; exact rfl
      · rfl
      · intro w hSw; (try dsimp only at hSw); go_simp; try with_reducible rfl
      try simp only [Act.put]
      try simp only [List.setIfInBounds_toArray, List.set_cons_zero, List.set_cons_succ]
      refine reg_take 1 ?_ ?_ ?_ (by kernel_rfl) (by kernel_rfl) (by kernel_rfl) (fun _ _ _ h => h) ?_ ?_ (by assumption) ?_
      rotate_left 2
      · simp only [List.getElem?_toArray, List.getElem?_cons_succ, List.getElem?_cons_zero]; exact rfl
      · rfl
      · intro w hSw; (try dsimp only at hSw); go_simp; try with_reducible rfl
      try simp only [Act.put]
      try simp only [List.setIfInBounds_toArray, List.set_cons_zero, List.set_cons_succ]
      refine reg_take 2 ?_ ?_ ?_ (by kernel_rfl) (by kernel_rfl) (by kernel_rfl) (fun _ _ _ h => h) ?_ ?_ (by assumption) ?_
      rotate_left 2
      · simp only [List.getElem?_toArray, List.getElem?_cons_succ, List.getElem?_cons_zero]; exact rfl
      · rfl
      · intro w hSw; (try dsimp only at hSw); go_simp; try with_reducible rfl
      try simp only [Act.put]
      try simp only [List.setIfInBounds_toArray, List.set_cons_zero, List.set_cons_succ]
      refine reg_take 3 ?_ ?_ ?_ (by kernel_rfl) (by kernel_rfl) (by kernel_rfl) (fun _ _ _ h => h) ?_ ?_ (by assumption) ?_
      rotate_left 2
      · simp only [List.getElem?_toArray, List.getElem?_cons_succ, List.getElem?_cons_zero]; exact rfl
      · rfl
      · intro w hSw; (try dsimp only at hSw); go_simp; try with_reducible rfl
      try simp only [Act.put]
      try simp only [List.setIfInBounds_toArray, List.set_cons_zero, List.set_cons_succ]
      refine reg_take 4 ?_ ?_ ?_ (by kernel_rfl) (by kernel_rfl) (by kernel_rfl) (fun _ _ _ h => h) ?_ ?_ (by assumption) ?_
      rotate_left 2
      · simp only [List.getElem?_toArray, List.getElem?_cons_succ, List.getElem?_cons_zero]; exact rfl
      · rfl
      · intro w hSw; (try dsimp only at hSw); go_simp; try with_reducible rfl
      try simp only [Act.put]
      try simp only [List.setIfInBounds_toArray, List.set_cons_zero, List.set_cons_succ]
      refine reg_take 5 ?_ ?_ ?_ (by kernel_rfl) (by kernel_rfl) (by kernel_rfl) (fun _ _ _ h => h) ?_ ?_ (by assumption) ?_
      rotate_left 2
      · simp only [List.getElem?_toArray, List.getElem?_cons_succ, List.getElem?_cons_zero]; exact rfl
      · rfl
      · intro w hSw; (try dsimp only at hSw); go_simp; try with_reducible rfl
      try simp only [Act.put]
      try simp only [List.setIfInBounds_toArray, List.set_cons_zero, List.set_cons_succ]
      refine reg_take 6 ?_ ?_ ?_ (by kernel_rfl) (by kernel_rfl) (by kernel_rfl) (fun _ _ _ h => h) ?_ ?_ (by assumption) ?_
      rotate_left 2
      · simp only [List.getElem?_toArray, List.getElem?_cons_succ, List.getElem?_cons_zero]; exact rfl
      · rfl
      · intro w hSw; (try dsimp only at hSw); go_simp; try with_reducible rfl
      try simp only [Act.put]
      try simp only [List.setIfInBounds_toArray, List.set_cons_zero, List.set_cons_succ]
      refine reg_take 7 ?_ ?_ ?_ (by kernel_rfl) (by kernel_rfl) (by kernel_rfl) (fun _ _ _ h => h) ?_ ?_ (by assumption) ?_
      rotate_left 2
      · simp only [List.getElem?_toArray, List.getElem?_cons_succ, List.getElem?_cons_zero]; exact rfl
      · rfl
      · intro w hSw; (try dsimp only at hSw); go_simp; try with_reducible rfl
      try simp only [Act.put]
      try simp only [List.setIfInBounds_toArray, List.set_cons_zero, List.set_cons_succ]
      refine reg_take 8 ?_ ?_ ?_ (by kernel_rfl) (by kernel_rfl) (by kernel_rfl) (fun _ _ _ h => h) ?_ ?_ (by assumption) ?_
      rotate_left 2
      · simp only [List.getElem?_toArray, List.getElem?_cons_succ, List.getElem?_cons_zero]; exact rfl
      · rfl
      · intro w hSw; (try dsimp only at hSw); go_simp; try with_reducible rfl
      try simp only [Act.put]
      try simp only [List.setIfInBounds_toArray, List.set_cons_zero, List.set_cons_succ]
      refine reg_take 9 ?_ ?_ ?_ (by kernel_rfl) (by kernel_rfl) (by kernel_rfl) (fun _ _ _ h => h) ?_ ?_ (by assumption) ?_
      rotate_left 2
      · simp only [List.getElem?_toArray, List.getElem?_cons_succ, List.getElem?_cons_zero]; exact rfl
      · rfl
      · intro w hSw; (try dsimp only at hSw); go_simp; try with_reducible rfl
      try simp only [Act.put]
      try simp only [List.setIfInBounds_toArray, List.set_cons_zero, List.set_cons_succ]
      refine reg_take 10 ?_ ?_ ?_ (by kernel_rfl) (by kernel_rfl) (by kernel_rfl) (fun _ _ _ h => h) ?_ ?_ (by assumption) ?_
      rotate_left 2
      · simp only [List.getElem?_toArray, List.getElem?_cons_succ, List.getElem?_cons_zero]; exact rfl
      · rfl
      · intro w hSw; (try dsimp only at hSw); go_simp; try with_reducible rfl
      try simp only [Act.put]
      try simp only [List.setIfInBounds_toArray, List.set_cons_zero, List.set_cons_succ]
      refine reg_take 11 ?_ ?_ ?_ (by kernel_rfl) (by kernel_rfl) (by kernel_rfl) (fun _ _ _ h => h) ?_ ?_ (by assumption) ?_
      rotate_left 2
      · simp only [List.getElem?_toArray, List.getElem?_cons_succ, List.getElem?_cons_zero]; exact rfl
      · rfl
      · intro w hSw; (try dsimp only at hSw); go_simp; try with_reducible rfl
      try simp only [Act.put]
      try simp only [List.setIfInBounds_toArray, List.set_cons_zero, List.set_cons_succ]
      refine reg_take 12 ?_ ?_ ?_ (by kernel_rfl) (by kernel_rfl) (by kernel_rfl) (fun _ _ _ h => h) ?_ ?_ (by assumption) ?_
      rotate_left 2
      · simp only [List.getElem?_toArray, List.getElem?_cons_succ, List.getElem?_cons_zero]; exact rfl
      · rfl
      · intro w hSw; (try dsimp only at hSw); go_simp; try with_reducible rfl
      try simp only [Act.put]
      try simp only [List.setIfInBounds_toArray, List.set_cons_zero, List.set_cons_succ]
      refine reg_take 13 ?_ ?_ ?_ (by kernel_rfl) (by kernel_rfl) (by kernel_rfl) (fun _ _ _ h => h) ?_ ?_ (by assumption) ?_
      rotate_left 2
      · simp only [List.getElem?_toArray, List.getElem?_cons_succ, List.getElem?_cons_zero]; exact rfl
      · rfl
      · intro w hSw; (try dsimp only at hSw); go_simp; try with_reducible rfl
      try simp only [Act.put]
      try simp only [List.setIfInBounds_toArray, List.set_cons_zero, List.set_cons_succ]
      refine reg_take 14 ?_ ?_ ?_ (by kernel_rfl) (by kernel_rfl) (by kernel_rfl) (fun _ _ _ h => h) ?_ ?_ (by assumption) ?_
      rotate_left 2
      · simp only [List.getElem?_toArray, List.getElem?_cons_succ, List.getElem?_cons_zero]; exact rfl
      · rfl
      · intro w hSw; (try dsimp only at hSw); go_simp; try with_reducible rfl
      try simp only [Act.put]
      try simp only [List.setIfInBounds_toArray, List.set_cons_zero, List.set_cons_succ]
      refine reg_take 15 ?_ ?_ ?_ (by kernel_rfl) (by kernel_rfl) (by kernel_rfl) (fun _ _ _ h => h) ?_ ?_ (by assumption) ?_
      rotate_left 2
      · simp only [List.getElem?_toArray, List.getElem?_cons_succ, List.getElem?_cons_zero]; exact rfl
      · rfl
      · intro w hSw; (try dsimp only at hSw); go_simp; try with_reducible rfl
      try simp only [Act.put]
      try simp only [List.setIfInBounds_toArray, List.set_cons_zero, List.set_cons_succ]
      refine reg_grab (fun WWq aq hWW hAA => ?_)
      rw [hWW]
      have HAq := Lib.hid hAA; clear hWW hAA hHeld
      obtain ⟨IVq, hIVq⟩ : ∃ IV : Array Bool → Act → World → Prop, ∀ l a w', IV l a w' ↔ ∀ CC : Prop, (∀ (lb16 lb17 : Bool) (lv16 lv17 : Value) (gpb gpc : Nat), (l = #[true, true, true, true, true, true, true, true, true, true, true, true, true, true, true, true, lb16, lb17, false, false]) → (a = ((aq.put (some 6) lv16).put (some 7) lv17)) → (FFq w') → ((lb16 = true → lv16 = .pointer (some ⟨gpb, 0, none⟩) ∧ Box w' gpb [.bool false, .slice none 0 0, .slice none 0 0, .bool false, .slice none 0 0, .slice none 0 0] ∧ w1.heap.size ≤ gpb)) → ((lb17 = true → lv17 = .pointer (some ⟨gpc, 0, none⟩) ∧ Box w' gpc [.bool false, .slice none 0 0, .slice none 0 0, .bool false, .slice none 0 0, .slice none 0 0] ∧ w1.heap.size ≤ gpc)) → ((lb16 = true → lb17 = true → gpb ≠ gpc)) → CC) → CC := ⟨_, fun _ _ _ => Iff.rfl⟩
      refine wpAnyH_until IVq ?_ _ _ _ _ ((hIVq _ _ _).2 (fun CC kk => kk false false (aq.tmps.getD 6 undef) (aq.tmps.getD 7 undef) 0 0 rfl (by simp only [put_same]) zF (fun h => by cases h) (fun h => by cases h) (fun h => by cases h))) (by kernel_rfl)
      clear zF
      intro ll aa w2 hI
      refine (hIVq _ _ _).1 hI _ ?_
      clear hI
      intro lb16 lb17 lv16 lv17 gpb gpc hll haa zF F16 F17 nq16_17
      subst hll haa
      by_cases hL : lb16 = true ∧ lb17 = true
      · left
        obtain ⟨rfl, rfl⟩ := hL
        obtain ⟨rfl, pb_0, hgpb⟩ := F16 rfl
        clear F16
        obtain ⟨rfl, pc_0, hgpc⟩ := F17 rfl
        clear F17
        have hnpbpc := nq16_17 rfl rfl
        clear nq16_17
        show wpAnyH _ _ _ _ _ 2 _ _ _
        rw [HAq.out]
        try simp only [Act.put]
        try simp only [List.setIfInBounds_toArray, List.set_cons_zero, List.set_cons_succ]
        obtain ⟨hB_0, f1x_0, f1y_0, f2x_0, f2y_0, f3x_0, f3y_0, pa_0, db_0, dc_0, hWq_0⟩ := (hFFq _).1 zF
        clear zF
        clear hWq_0
        obtain ⟨sf1a, sf1b, sf1c, sf1d, sf1e, sf1f, sf1g, sf1h, sf1i, sf1j, sf1k, sf1l⟩ := pb_0.open6
        obtain ⟨sg1a, sg1b, sg1c, sg1d, sg1e, sg1f, sg1g, sg1h, sg1i, sg1j⟩ := Box.put6 pb_0 (.bool m2x) (.slice o2x n2x c2x) (.slice p2x k2x d2x) (.bool m2y) (.slice o2y n2y c2y)
        refine reg_call 18 ?_ (by kernel_rfl) ?_ (fun K hK => ?_)
        rotate_left 1
        · simp only [List.getElem?_toArray, List.getElem?_cons_succ, List.getElem?_cons_zero]; exact rfl
        go_simp
        have hB_1 := below_setAll hB_0 (g := gpb) (by omega) [.bool m2x, .slice o2x n2x c2x, .slice p2x k2x d2x, .bool m2y, .slice o2y n2y c2y, .slice p2y k2y d2y]
        have f1x_1 := f1x_0.setAll pb_0 (noWord6 _ _ _ _ _ _ _ _ _ _ _ _ _ _) [.bool m2x, .slice o2x n2x c2x, .slice p2x k2x d2x, .bool m2y, .slice o2y n2y c2y, .slice p2y k2y d2y] rfl
        have f1y_1 := f1y_0.setAll pb_0 (noWord6 _ _ _ _ _ _ _ _ _ _ _ _ _ _) [.bool m2x, .slice o2x n2x c2x, .slice p2x k2x d2x, .bool m2y, .slice o2y n2y c2y, .slice p2y k2y d2y] rfl
        have f2x_1 := f2x_0.setAll pb_0 (noWord6 _ _ _ _ _ _ _ _ _ _ _ _ _ _) [.bool m2x, .slice o2x n2x c2x, .slice p2x k2x d2x, .bool m2y, .slice o2y n2y c2y, .slice p2y k2y d2y] rfl
        have f2y_1 := f2y_0.setAll pb_0 (noWord6 _ _ _ _ _ _ _ _ _ _ _ _ _ _) [.bool m2x, .slice o2x n2x c2x, .slice p2x k2x d2x, .bool m2y, .slice o2y n2y c2y, .slice p2y k2y d2y] rfl
        have f3x_1 := f3x_0.setAll pb_0 (noWord6 _ _ _ _ _ _ _ _ _ _ _ _ _ _) [.bool m2x, .slice o2x n2x c2x, .slice p2x k2x d2x, .bool m2y, .slice o2y n2y c2y, .slice p2y k2y d2y] rfl
        have f3y_1 := f3y_0.setAll pb_0 (noWord6 _ _ _ _ _ _ _ _ _ _ _ _ _ _) [.bool m2x, .slice o2x n2x c2x, .slice p2x k2x d2x, .bool m2y, .slice o2y n2y c2y, .slice p2y k2y d2y] rfl
        have pa_1 := pa_0.farAll (g' := gpb) (by omega) [.bool m2x, .slice o2x n2x c2x, .slice p2x k2x d2x, .bool m2y, .slice o2y n2y c2y, .slice p2y k2y d2y]
        have db_1 := db_0.farAll (g' := gpb) (by omega) [.bool m2x, .slice o2x n2x c2x, .slice p2x k2x d2x, .bool m2y, .slice o2y n2y c2y, .slice p2y k2y d2y]
        have dc_1 := dc_0.farAll (g' := gpb) (by omega) [.bool m2x, .slice o2x n2x c2x, .slice p2x k2x d2x, .bool m2y, .slice o2y n2y c2y, .slice p2y k2y d2y]
        have pc_1 := pc_0.farAll (g' := gpb) (by omega) [.bool m2x, .slice o2x n2x c2x, .slice p2x k2x d2x, .bool m2y, .slice o2y n2y c2y, .slice p2y k2y d2y]
        have pb_1 := pb_0.setAll [.bool m2x, .slice o2x n2x c2x, .slice p2x k2x d2x, .bool m2y, .slice o2y n2y c2y, .slice p2y k2y d2y] rfl
        simp only [setAll, Nat.zero_add, Nat.reduceAdd] at hB_1 f1x_1 f1y_1 f2x_1 f2y_1 f3x_1 f3y_1 pa_1 db_1 dc_1 pb_1 pc_1
        clear sf1a sf1b sf1c sf1d sf1e sf1f sf1g sf1h sf1i sf1j sf1k sf1l sg1a sg1b sg1c sg1d sg1e sg1f sg1g sg1h sg1i sg1j
        clear hB_0 f1x_0 f1y_0 f2x_0 f2y_0 f3x_0 f3y_0 pa_0 db_0 dc_0 pc_0 pb_0
        refine hK.out _ _ ⟨db_1.c0, db_1.c1, db_1.c2, db_1.c3, db_1.c4, db_1.c5, dc_1.c0, dc_1.c1, dc_1.c2, dc_1.c3, dc_1.c4, dc_1.c5⟩ (fun hHeld => ?_)
        clear hK K
        try simp only [Act.put]
        try simp only [List.setIfInBounds_toArray, List.set_cons_zero, List.set_cons_succ]
        generalize (World.setCell (World.setCell (World.setCell (World.setCell (World.setCell (World.setCell w2 ⟨gpb, 0, none⟩ (.bool m2x)) ⟨gpb, 1, none⟩ (.slice o2x n2x c2x)) ⟨gpb, 2, none⟩ (.slice p2x k2x d2x)) ⟨gpb, 3, none⟩ (.bool m2y)) ⟨gpb, 4, none⟩ (.slice o2y n2y c2y)) ⟨gpb, 5, none⟩ (.slice p2y k2y d2y)) = w3 at *
        obtain ⟨sf2a, sf2b, sf2c, sf2d, sf2e, sf2f, sf2g, sf2h, sf2i, sf2j, sf2k, sf2l⟩ := pc_1.open6
        obtain ⟨sg2a, sg2b, sg2c, sg2d, sg2e, sg2f, sg2g, sg2h, sg2i, sg2j⟩ := Box.put6 pc_1 (.bool m3x) (.slice o3x n3x c3x) (.slice p3x k3x d3x) (.bool m3y) (.slice o3y n3y c3y)
        refine reg_call 19 ?_ (by kernel_rfl) ?_ (fun K hK => ?_)
        rotate_left 1
        · simp only [List.getElem?_toArray, List.getElem?_cons_succ, List.getElem?_cons_zero]; exact rfl
        go_simp
        have hB_2 := below_setAll hB_1 (g := gpc) (by omega) [.bool m3x, .slice o3x n3x c3x, .slice p3x k3x d3x, .bool m3y, .slice o3y n3y c3y, .slice p3y k3y d3y]
        have f1x_2 := f1x_1.setAll pc_1 (noWord6 _ _ _ _ _ _ _ _ _ _ _ _ _ _) [.bool m3x, .slice o3x n3x c3x, .slice p3x k3x d3x, .bool m3y, .slice o3y n3y c3y, .slice p3y k3y d3y] rfl
        have f1y_2 := f1y_1.setAll pc_1 (noWord6 _ _ _ _ _ _ _ _ _ _ _ _ _ _) [.bool m3x, .slice o3x n3x c3x, .slice p3x k3x d3x, .bool m3y, .slice o3y n3y c3y, .slice p3y k3y d3y] rfl
        have f2x_2 := f2x_1.setAll pc_1 (noWord6 _ _ _ _ _ _ _ _ _ _ _ _ _ _) [.bool m3x, .slice o3x n3x c3x, .slice p3x k3x d3x, .bool m3y, .slice o3y n3y c3y, .slice p3y k3y d3y] rfl
        have f2y_2 := f2y_1.setAll pc_1 (noWord6 _ _ _ _ _ _ _ _ _ _ _ _ _ _) [.bool m3x, .slice o3x n3x c3x, .slice p3x k3x d3x, .bool m3y, .slice o3y n3y c3y, .slice p3y k3y d3y] rfl
        have f3x_2 := f3x_1.setAll pc_1 (noWord6 _ _ _ _ _ _ _ _ _ _ _ _ _ _) [.bool m3x, .slice o3x n3x c3x, .slice p3x k3x d3x, .bool m3y, .slice o3y n3y c3y, .slice p3y k3y d3y] rfl
        have f3y_2 := f3y_1.setAll pc_1 (noWord6 _ _ _ _ _ _ _ _ _ _ _ _ _ _) [.bool m3x, .slice o3x n3x c3x, .slice p3x k3x d3x, .bool m3y, .slice o3y n3y c3y, .slice p3y k3y d3y] rfl
        have pa_2 := pa_1.farAll (g' := gpc) (by omega) [.bool m3x, .slice o3x n3x c3x, .slice p3x k3x d3x, .bool m3y, .slice o3y n3y c3y, .slice p3y k3y d3y]
        have db_2 := db_1.farAll (g' := gpc) (by omega) [.bool m3x, .slice o3x n3x c3x, .slice p3x k3x d3x, .bool m3y, .slice o3y n3y c3y, .slice p3y k3y d3y]
        have dc_2 := dc_1.farAll (g' := gpc) (by omega) [.bool m3x, .slice o3x n3x c3x, .slice p3x k3x d3x, .bool m3y, .slice o3y n3y c3y, .slice p3y k3y d3y]
        have pb_2 := pb_1.farAll (g' := gpc) (by omega) [.bool m3x, .slice o3x n3x c3x, .slice p3x k3x d3x, .bool m3y, .slice o3y n3y c3y, .slice p3y k3y d3y]
        have pc_2 := pc_1.setAll [.bool m3x, .slice o3x n3x c3x, .slice p3x k3x d3x, .bool m3y, .slice o3y n3y c3y, .slice p3y k3y d3y] rfl
        simp only [setAll, Nat.zero_add, Nat.reduceAdd] at hB_2 f1x_2 f1y_2 f2x_2 f2y_2 f3x_2 f3y_2 pa_2 db_2 dc_2 pb_2 pc_2
        clear sf2a sf2b sf2c sf2d sf2e sf2f sf2g sf2h sf2i sf2j sf2k sf2l sg2a sg2b sg2c sg2d sg2e sg2f sg2g sg2h sg2i sg2j
        clear hB_1 f1x_1 f1y_1 f2x_1 f2y_1 f3x_1 f3y_1 pa_1 db_1 dc_1 pb_1 pc_1
        refine hK.out _ _ ⟨db_2.c0, db_2.c1, db_2.c2, db_2.c3, db_2.c4, db_2.c5, dc_2.c0, dc_2.c1, dc_2.c2, dc_2.c3, dc_2.c4, dc_2.c5⟩ (fun hHeld => ?_)
        clear hK K
        try simp only [Act.put]
        try simp only [List.setIfInBounds_toArray, List.set_cons_zero, List.set_cons_succ]
        generalize (World.setCell (World.setCell (World.setCell (World.setCell (World.setCell (World.setCell w3 ⟨gpc, 0, none⟩ (.bool m3x)) ⟨gpc, 1, none⟩ (.slice o3x n3x c3x)) ⟨gpc, 2, none⟩ (.slice p3x k3x d3x)) ⟨gpc, 3, none⟩ (.bool m3y)) ⟨gpc, 4, none⟩ (.slice o3y n3y c3y)) ⟨gpc, 5, none⟩ (.slice p3y k3y d3y)) = w4 at *
        refine wpAnyH_done (by kernel_rfl) ?_ _
        refine NoPanic.normal ?_
        clear db_2 dc_2
        obtain ⟨pae0, pae1, pae2, pae3, pae4, pae5, pae6, pae7, pae8, pae9, pae10, pae11⟩ := pa_2.open6
        obtain ⟨pbe0, pbe1, pbe2, pbe3, pbe4, pbe5, pbe6, pbe7, pbe8, pbe9, pbe10, pbe11⟩ := pb_2.open6
        obtain ⟨pce0, pce1, pce2, pce3, pce4, pce5, pce6, pce7, pce8, pce9, pce10, pce11⟩ := pc_2.open6
        go_wp2_with fail
        refine (sSide_any L x y L x' y' L x2 y2 1 _ (by omega) (by omega) (by omega) f1x_2.q f1y_2.q f2x_2.q f2y_2.q f3x_2.q f3y_2.q HS.out).mono ?_
        rintro e w5 ⟨rfl, hb5⟩
        clear pae0 pae1 pae2 pae3 pae4 pae5 pae6 pae7 pae8 pae9 pae10 pae11 pbe0 pbe1 pbe2 pbe3 pbe4 pbe5 pbe6 pbe7 pbe8 pbe9 pbe10 pbe11 pce0 pce1 pce2 pce3 pce4 pce5 pce6 pce7 pce8 pce9 pce10 pce11
        have hB_3 := hB_2.trans (hb5.mono hB_2.size)
        have f1x_3 := f1x_2.below hb5
        have f1y_3 := f1y_2.below hb5
        have f2x_3 := f2x_2.below hb5
        have f2y_3 := f2y_2.below hb5
        have f3x_3 := f3x_2.below hb5
        have f3y_3 := f3y_2.below hb5
        have pa_3 := pa_2.below hb5
        have pb_3 := pb_2.below hb5
        have pc_3 := pc_2.below hb5
        clear hb5 hB_2 f1x_2 f1y_2 f2x_2 f2y_2 f3x_2 f3y_2 pa_2 pb_2 pc_2
        obtain ⟨pae0, pae1, pae2, pae3, pae4, pae5, pae6, pae7, pae8, pae9, pae10, pae11⟩ := pa_3.open6
        obtain ⟨pbe0, pbe1, pbe2, pbe3, pbe4, pbe5, pbe6, pbe7, pbe8, pbe9, pbe10, pbe11⟩ := pb_3.open6
        obtain ⟨pce0, pce1, pce2, pce3, pce4, pce5, pce6, pce7, pce8, pce9, pce10, pce11⟩ := pc_3.open6
        go_wp2_with fail
        refine (qCmp _ _ L L y y' _ (by omega) (by omega) f1y_3.q f2y_3.q c1 HC1.out).mono ?_
        rintro e w6 ⟨rfl, hb6⟩
        clear pae0 pae1 pae2 pae3 pae4 pae5 pae6 pae7 pae8 pae9 pae10 pae11 pbe0 pbe1 pbe2 pbe3 pbe4 pbe5 pbe6 pbe7 pbe8 pbe9 pbe10 pbe11 pce0 pce1 pce2 pce3 pce4 pce5 pce6 pce7 pce8 pce9 pce10 pce11
        have hB_4 := hB_3.trans (hb6.mono hB_3.size)
        have f1x_4 := f1x_3.below hb6
        have f1y_4 := f1y_3.below hb6
        have f2x_4 := f2x_3.below hb6
        have f2y_4 := f2y_3.below hb6
        have f3x_4 := f3x_3.below hb6
        have f3y_4 := f3y_3.below hb6
        have pa_4 := pa_3.below hb6
        have pb_4 := pb_3.below hb6
        have pc_4 := pc_3.below hb6
        clear hb6 hB_3 f1x_3 f1y_3 f2x_3 f2y_3 f3x_3 f3y_3 pa_3 pb_3 pc_3
        obtain ⟨pae0, pae1, pae2, pae3, pae4, pae5, pae6, pae7, pae8, pae9, pae10, pae11⟩ := pa_4.open6
        obtain ⟨pbe0, pbe1, pbe2, pbe3, pbe4, pbe5, pbe6, pbe7, pbe8, pbe9, pbe10, pbe11⟩ := pb_4.open6
        obtain ⟨pce0, pce1, pce2, pce3, pce4, pce5, pce6, pce7, pce8, pce9, pce10, pce11⟩ := pc_4.open6
        by_cases h1 : 0 ≤ c1
        · have HD1 := Lib.hid h1
          have e1 : decide (0 ≤ c1) = true := by simp; omega
          go_wp2_with fail
          refine (qCmp _ _ L L y' y2 _ (by omega) (by omega) f2y_4.q f3y_4.q c2 HC2.out).mono ?_
          rintro e w7 ⟨rfl, hb7⟩
          clear pae0 pae1 pae2 pae3 pae4 pae5 pae6 pae7 pae8 pae9 pae10 pae11 pbe0 pbe1 pbe2 pbe3 pbe4 pbe5 pbe6 pbe7 pbe8 pbe9 pbe10 pbe11 pce0 pce1 pce2 pce3 pce4 pce5 pce6 pce7 pce8 pce9 pce10 pce11
          have hB_5 := hB_4.trans (hb7.mono hB_4.size)
          have f1x_5 := f1x_4.below hb7
          have f1y_5 := f1y_4.below hb7
          have f2x_5 := f2x_4.below hb7
          have f2y_5 := f2y_4.below hb7
          have f3x_5 := f3x_4.below hb7
          have f3y_5 := f3y_4.below hb7
          have pa_5 := pa_4.below hb7
          have pb_5 := pb_4.below hb7
          have pc_5 := pc_4.below hb7
          clear hb7 hB_4 f1x_4 f1y_4 f2x_4 f2y_4 f3x_4 f3y_4 pa_4 pb_4 pc_4
          obtain ⟨pae0, pae1, pae2, pae3, pae4, pae5, pae6, pae7, pae8, pae9, pae10, pae11⟩ := pa_5.open6
          obtain ⟨pbe0, pbe1, pbe2, pbe3, pbe4, pbe5, pbe6, pbe7, pbe8, pbe9, pbe10, pbe11⟩ := pb_5.open6
          obtain ⟨pce0, pce1, pce2, pce3, pce4, pce5, pce6, pce7, pce8, pce9, pce10, pce11⟩ := pc_5.open6
          by_cases h2 : c2 < 0
          · have HD2 := Lib.hid h2
            have e2 : decide (c2 < 0) = true := by simp; omega
            go_wp2
            have hnr : riseQ l k := HR.out.2 ⟨HD1.out, HD2.out⟩
            have hcn : cntR l (k + 1) = cntR l k + 1 := by show cntR l k + _ = _; rw [if_pos hnr]
            refine ⟨⟨k + 1, by omega, by go_num, by rw [hcn]; simp, hB_5⟩, by simp [intOf]; omega⟩
          · have HD2 := Lib.hid h2
            have e2 : decide (c2 < 0) = false := by simp; omega
            go_wp2
            have hnr : ¬ riseQ l k := fun r => by have h2 := (HR.out.1 r).2; have h3 := HD2.out; omega
            have hcn : cntR l (k + 1) = cntR l k := by show cntR l k + _ = _; rw [if_neg hnr]; rfl
            refine ⟨⟨k + 1, by omega, by go_num, by rw [hcn], hB_5⟩, by simp [intOf]; omega⟩
        · have HD1 := Lib.hid h1
          have e1 : decide (0 ≤ c1) = false := by simp; omega
          go_wp2
          have hnr : ¬ riseQ l k := fun r => by have h2 := (HR.out.1 r).1; have h3 := HD1.out; omega
          have hcn : cntR l (k + 1) = cntR l k := by show cntR l k + _ = _; rw [if_neg hnr]; rfl
          refine ⟨⟨k + 1, by omega, by go_num, by rw [hcn], hB_4⟩, by simp [intOf]; omega⟩
      · right
        refine ⟨?_, fun i hi => ?_⟩
        · clear zF F16 F17 nq16_17
          cases lb16
          · exact ready_of 16 _ rfl rfl (by kernel_rfl)
          cases lb17
          · exact ready_of 17 _ rfl rfl (by kernel_rfl)
          exact absurd ⟨rfl, rfl⟩ hL
        have hd : (lb16 = false ∧ i = 16) ∨ (lb17 = false ∧ i = 17) := by
          have hin := ready_lt hi
          obtain rfl | rfl | rfl | rfl | rfl | rfl | rfl | rfl | rfl | rfl | rfl | rfl | rfl | rfl | rfl | rfl | rfl | rfl | rfl | rfl : i = 0 ∨ i = 1 ∨ i = 2 ∨ i = 3 ∨ i = 4 ∨ i = 5 ∨ i = 6 ∨ i = 7 ∨ i = 8 ∨ i = 9 ∨ i = 10 ∨ i = 11 ∨ i = 12 ∨ i = 13 ∨ i = 14 ∨ i = 15 ∨ i = 16 ∨ i = 17 ∨ i = 18 ∨ i = 19 := by have hin' : i < 20 := hin; omega
          · exact absurd (ready_off hi) (fun h => Bool.noConfusion (show true = false from h))
          · exact absurd (ready_off hi) (fun h => Bool.noConfusion (show true = false from h))
          · exact absurd (ready_off hi) (fun h => Bool.noConfusion (show true = false from h))
          · exact absurd (ready_off hi) (fun h => Bool.noConfusion (show true = false from h))
          · exact absurd (ready_off hi) (fun h => Bool.noConfusion (show true = false from h))
          · exact absurd (ready_off hi) (fun h => Bool.noConfusion (show true = false from h))
          · exact absurd (ready_off hi) (fun h => Bool.noConfusion (show true = false from h))
          · exact absurd (ready_off hi) (fun h => Bool.noConfusion (show true = false from h))
          · exact absurd (ready_off hi) (fun h => Bool.noConfusion (show true = false from h))
          · exact absurd (ready_off hi) (fun h => Bool.noConfusion (show true = false from h))
          · exact absurd (ready_off hi) (fun h => Bool.noConfusion (show true = false from h))
          · exact absurd (ready_off hi) (fun h => Bool.noConfusion (show true = false from h))
          · exact absurd (ready_off hi) (fun h => Bool.noConfusion (show true = false from h))
          · exact absurd (ready_off hi) (fun h => Bool.noConfusion (show true = false from h))
          · exact absurd (ready_off hi) (fun h => Bool.noConfusion (show true = false from h))
          · exact absurd (ready_off hi) (fun h => Bool.noConfusion (show true = false from h))
          · exact .inl ⟨ready_off hi, rfl⟩
          · exact .inr (⟨ready_off hi, rfl⟩)
          · have k16 : lb16 = true := ready_dep (d := 16) hi (by kernel_rfl); have k17 : lb17 = true := ready_dep (d := 17) hi (by kernel_rfl)
            exact absurd ⟨k16, k17⟩ hL
          · exact absurd (ready_dep (d := 18) hi (by kernel_rfl)) (fun h => Bool.noConfusion (show false = true from h))
        clear hi hL
        rcases hd with ⟨rfl, rfl⟩ | ⟨rfl, rfl⟩
        · refine step_of 16 ?_ ?_ (fun K hK => ?_)
          rotate_left 1
          · simp only [List.getElem?_toArray, List.getElem?_cons_succ, List.getElem?_cons_zero]; exact rfl
          rw [HAq.out]
          try simp only [Act.put]
          try simp only [List.setIfInBounds_toArray, List.set_cons_zero, List.set_cons_succ]
          go_simp
          have hgn := mFq zF
          have hq17 : lb17 = true → gpc < w2.heap.size := fun h => (F17 h).2.1.lt
          obtain ⟨wn, hwn, pb_0, hb, -⟩ := new_box w2 _ rfl [.bool false, .slice none 0 0, .slice none 0 0, .bool false, .slice none 0 0, .slice none 0 0] 42
          rw [hwn]
          refine hK.out _ _ (sFq (cFq zF hb)) ?_
          exact (hIVq _ _ _).2 (fun CC kk => kk true lb17 (.pointer (some ⟨w2.heap.size, 0, none⟩)) lv17 w2.heap.size gpc rfl (by simp only [HAq.out, Act.put, List.setIfInBounds_toArray, List.set_cons_zero, List.set_cons_succ]) (cFq zF hb) (fun _ => ⟨rfl, pb_0, hgn⟩) (fun h => ⟨(F17 h).1, (F17 h).2.1.below hb, (F17 h).2.2⟩) (fun _ h => by have := hq17 h; omega))
        · refine step_of 17 ?_ ?_ (fun K hK => ?_)
          rotate_left 1
          · simp only [List.getElem?_toArray, List.getElem?_cons_succ, List.getElem?_cons_zero]; exact rfl
          rw [HAq.out]
          try simp only [Act.put]
          try simp only [List.setIfInBounds_toArray, List.set_cons_zero, List.set_cons_succ]
          go_simp
          have hgn := mFq zF
          have hq16 : lb16 = true → gpb < w2.heap.size := fun h => (F16 h).2.1.lt
          obtain ⟨wn, hwn, pc_0, hb, -⟩ := new_box w2 _ rfl [.bool false, .slice none 0 0, .slice none 0 0, .bool false, .slice none 0 0, .slice none 0 0] 42
          rw [hwn]
          refine hK.out _ _ (sFq (cFq zF hb)) ?_
          exact (hIVq _ _ _).2 (fun CC kk => kk lb16 true lv16 (.pointer (some ⟨w2.heap.size, 0, none⟩)) gpb w2.heap.size rfl (by simp only [HAq.out, Act.put, List.setIfInBounds_toArray, List.set_cons_zero, List.set_cons_succ]) (cFq zF hb) (fun h => ⟨(F16 h).1, (F16 h).2.1.below hb, (F16 h).2.2⟩) (fun _ => ⟨rfl, pc_0, hgn⟩) (fun h _ => by have := hq16 h; omega))
    · obtain rfl : k = n := by omega
      have hone : cntR l k ≤ 1 := by
        rcases HC.out with h | h
        · subst h; simp at hn; subst hn; simp [cntR]
        · exact (cnt_one h k (by omega)).1
      have hone' : ((cntR l k : Nat) : Int) ≤ 1 := by omega
      go_wp2
      go_ret
      exact ⟨rfl, hB_0⟩
set_option maxRecDepth 100000 in
set_option maxHeartbeats 16000000 in
theorem cWithin_any {sxm : Bool} {sxo : Option Addr} {sxn sxc : Nat} {sxp : Option Addr} {sxk sxd : Nat} {sym : Bool} {syo : Option Addr} {syn syc : Nat} {syp : Option Addr} {syk syd : Nat} (ao : Option Addr) (n c : Nat) (l : List (Rat × Rat)) (Ls L : Nat) (sxq syq : Rat) (q : Bool) (w : World) (hn : l.length = n) (hn9 : n ≤ 1000) (hL : L ≤ 1000) (hLs : Ls ≤ 1000) (hsp : SpotsR w ao L l) (fsx_0 : FQ w (.agg #[.bool sxm, .slice sxo sxn sxc, .slice sxp sxk sxd]) Ls sxq) (fsy_0 : FQ w (.agg #[.bool sym, .slice syo syn syc, .slice syp syk syd]) Ls syq) (h : InL l (sxq, syq) ↔ q = true) :
    Calls Try.prog 20 #[.agg #[.bool sxm, .slice sxo sxn sxc, .slice sxp sxk sxd, .bool sym, .slice syo syn syc, .slice syp syk syd], .slice ao n c] w fun e w' => e = .returned (.bool q) ∧ Below w.heap.size w w' := by
  have hB_0 := Below.refl w.heap.size w
  have SP := Lib.hid hsp; have HQ := Lib.hid h; have FX := Lib.hid fsx_0; have FY := Lib.hid fsy_0; clear hsp h fsx_0 fsy_0
  obtain ⟨w1, hw1, ps_0, hb1, hs1⟩ := new_box w (w.heap.size) rfl [.bool sxm, .slice sxo sxn sxc, .slice sxp sxk sxd, .bool sym, .slice syo syn syc, .slice syp syk syd] 42
  have hb1' : Below w.heap.size w w1 := hb1.mono (by omega)
  clear hb1
  have hB_1 := hB_0.trans (hb1'.mono hB_0.size)
  clear hb1' hB_0
  go_enter Try.func20, Try.ntmps20
  go_wp2
  go_loopw [8] (fun iv wr => ∃ k : Nat, k ≤ n ∧ iv = .int .i64 k ∧ (∀ i, i < k → 0 ≤ crossQ (cor l i) (cor l (i + 1)) (sxq, syq)) ∧ Below w.heap.size w wr ∧ Box wr w.heap.size [.bool sxm, .slice sxo sxn sxc, .slice sxp sxk sxd, .bool sym, .slice syo syn syc, .slice syp syk syd]) (fun iv _ => n - (intOf iv).toNat)
  case atStart => exact ⟨0, Nat.zero_le _, rfl, fun i hi => absurd hi (by omega), hB_1, ps_0⟩
  case round =>
    obtain ⟨k, hk, rfl, hall, hB_0, ps_0⟩ := hrel
    have HALL := Lib.hid hall; clear hall
    by_cases hlt : k < n
    · obtain ⟨j, hj⟩ : ∃ j, (k + 1) % n = j := ⟨_, rfl⟩
      have hjn : j < n := by rw [← hj]; exact Nat.mod_lt _ (by omega)
      obtain ⟨x, y, hlk⟩ : ∃ x y, l[k]? = some (x, y) := ⟨_, _, List.getElem?_eq_getElem (by omega)⟩
      obtain ⟨x', y', hlj⟩ : ∃ x y, l[j]? = some (x, y) := ⟨_, _, List.getElem?_eq_getElem (by omega)⟩
      obtain ⟨b, o, m1x, o1x, n1x, c1x, p1x, k1x, d1x, m1y, o1y, n1y, c1y, p1y, k1y, d1y, hao, da, r1x, r1y⟩ := SP.out k x y hlk
      obtain ⟨b', o', m2x, o2x, n2x, c2x, p2x, k2x, d2x, m2y, o2y, n2y, c2y, p2y, k2y, d2y, hao', db, r2x, r2y⟩ := SP.out j x' y' hlj
      subst hao
      simp at hao'
      obtain ⟨rfl, rfl⟩ := hao'
      have hmod : ((k : Int) + 1).tmod (n : Int) = (j : Int) := by rw [step_mod1, hj]
      have hk0 : ((n : Int) == 0) = false := by simp; omega
      have hkn : ¬ n = 0 := by omega
      have hwj : IntKind.i64.wrap ((k : Int) + 1) = (k : Int) + 1 := by rw [IntKind.wrap_i64]; omega
      have hb1 : (0 : Int) ≤ (k : Int) := by omega
      have hb2 : (k : Int) < (n : Int) := by omega
      have hb3 : (0 : Int) ≤ (j : Int) := by omega
      have hb4 : (j : Int) < (n : Int) := by omega
      obtain ⟨d, hd⟩ : ∃ d, sideQ x y x' y' sxq syq = d := ⟨_, rfl⟩
      have hD : d < 0 ↔ crossQ (cor l k) (cor l (k + 1)) (sxq, syq) < 0 := by
        rw [at_cor0 hlk, at_cor (i := k + 1) (by rw [hn, hj]; exact hlj), ← hd]
        have := side_cross (x, y) (x', y') (sxq, syq)
        simp only [] at this
        rw [this, qcmp_neg']
      have HD := Lib.hid hD; have HSD := Lib.hid hd
      clear hD hd hlk hlj hj
      have da_0 := da.below hB_0; have db_0 := db.below hB_0; clear da db
      have f1x_0 := r1x.below hB_0
      have f1y_0 := r1y.below hB_0
      have f2x_0 := r2x.below hB_0
      have f2y_0 := r2y.below hB_0
      have fsx_0 := FX.out.below hB_0
      have fsy_0 := FY.out.below hB_0
      clear r1x r1y r2x r2y
      go_wp2
      have hB_1 := hB_0.drew'
      have ps_1 := ps_0.drew
      have da_1 := da_0.drew
      have db_1 := db_0.drew
      have f1x_1 := f1x_0.drew
      have f1y_1 := f1y_0.drew
      have f2x_1 := f2x_0.drew
      have f2y_1 := f2y_0.drew
      have fsx_1 := fsx_0.drew
      have fsy_1 := fsy_0.drew
      clear hB_0 ps_0 da_0 db_0 f1x_0 f1y_0 f2x_0 f2y_0 fsx_0 fsy_0
      go_region_held3 (fun w' => w'.cell? ⟨b, o + k * 6, none⟩ = some (.bool m1x) ∧ w'.cell? ⟨b, o + k * 6 + 1, none⟩ = some (.slice o1x n1x c1x) ∧ w'.cell? ⟨b, o + k * 6 + 2, none⟩ = some (.slice p1x k1x d1x) ∧ w'.cell? ⟨b, o + k * 6 + 3, none⟩ = some (.bool m1y) ∧ w'.cell? ⟨b, o + k * 6 + 4, none⟩ = some (.slice o1y n1y c1y) ∧ w'.cell? ⟨b, o + k * 6 + 5, none⟩ = some (.slice p1y k1y d1y) ∧ w'.cell? ⟨b, o + j * 6, none⟩ = some (.bool m2x) ∧ w'.cell? ⟨b, o + j * 6 + 1, none⟩ = some (.slice o2x n2x c2x) ∧ w'.cell? ⟨b, o + j * 6 + 2, none⟩ = some (.slice p2x k2x d2x) ∧ w'.cell? ⟨b, o + j * 6 + 3, none⟩ = some (.bool m2y) ∧ w'.cell? ⟨b, o + j * 6 + 4, none⟩ = some (.slice o2y n2y c2y) ∧ w'.cell? ⟨b, o + j * 6 + 5, none⟩ = some (.slice p2y k2y d2y) ∧ w'.cell? ⟨w.heap.size, 0, none⟩ = some (.bool sxm) ∧ w'.cell? ⟨w.heap.size, 1, none⟩ = some (.slice sxo sxn sxc) ∧ w'.cell? ⟨w.heap.size, 2, none⟩ = some (.slice sxp sxk sxd) ∧ w'.cell? ⟨w.heap.size, 3, none⟩ = some (.bool sym) ∧ w'.cell? ⟨w.heap.size, 4, none⟩ = some (.slice syo syn syc) ∧ w'.cell? ⟨w.heap.size, 5, none⟩ = some (.slice syp syk syd))
        (first | with_reducible exact ⟨da_1.c0, da_1.c1, da_1.c2, da_1.c3, da_1.c4, da_1.c5, db_1.c0, db_1.c1, db_1.c2, db_1.c3, db_1.c4, db_1.c5, ps_1.c0, ps_1.c1, ps_1.c2, ps_1.c3, ps_1.c4, ps_1.c5⟩ | with_reducible exact ⟨da_2.c0, da_2.c1, da_2.c2, da_2.c3, da_2.c4, da_2.c5, db_2.c0, db_2.c1, db_2.c2, db_2.c3, db_2.c4, db_2.c5, ps_2.c0, ps_2.c1, ps_2.c2, ps_2.c3, ps_2.c4, ps_2.c5⟩ | fail)
        (first
          | (go_at_call 34; (with_reducible refine (sSide_any L x y L x' y' Ls sxq syq d _ (by omega) (by omega) (by omega) f1x_1.q f1y_1.q f2x_1.q f2y_1.q fsx_1 fsy_1 HSD.out).mono ?_); rintro e w2 ⟨rfl, hb2⟩; have hB_2 := hB_1.trans (hb2.mono hB_1.size); have ps_2 := ps_1.below hb2; have da_2 := da_1.below hb2; have db_2 := db_1.below hb2; have f1x_2 := f1x_1.below hb2; have f1y_2 := f1y_1.below hb2; have f2x_2 := f2x_1.below hb2; have f2y_2 := f2y_1.below hb2; have fsx_2 := fsx_1.below hb2; have fsy_2 := fsy_1.below hb2; clear hb2 hB_1 ps_1 da_1 db_1 f1x_1 f1y_1 f2x_1 f2y_1 fsx_1 fsy_1))
      by_cases hd : d < 0
      · obtain rfl : q = false := by
          cases q with
          | false => rfl
          | true => exact absurd (HD.out.1 hd) (by have := (HQ.out.2 rfl).2 k (by omega); grind)
        go_wp2
        go_ret
        exact ⟨rfl, hB_2⟩
      · have HN := Lib.hid hd
        go_wp2
        refine ⟨⟨k + 1, by omega, by go_num, fun i hi => ?_, hB_2, ps_2⟩, by simp [intOf]; omega⟩
        by_cases e : i = k
        · subst e
          have h1 : ¬ crossQ (cor l i) (cor l (i + 1)) (sxq, syq) < 0 := fun h => by have h2 := HD.out.2 h; have h3 := HN.out; omega
          grind
        · exact HALL.out i (by omega)
    · obtain rfl : k = n := by omega
      by_cases h0 : 0 < k
      · obtain rfl : q = true := HQ.out.1 ⟨by omega, fun i hi => HALL.out i (by omega)⟩
        have h0' : (0 : Int) < (k : Int) := by omega
        go_wp2
        go_ret
        exact ⟨rfl, hB_0⟩
      · obtain rfl : q = false := by
          cases q with
          | false => rfl
          | true => have := (HQ.out.2 rfl).1; omega
        obtain rfl : k = 0 := by omega
        go_wp2
        go_ret
        exact ⟨rfl, hB_0⟩
end Go.Proofs.Ytdfabocecpcmcaa
/- The calls of clip: corner, Box. -/
namespace Go.Proofs.Ytdfabocecpcmcaa
open Go.RowKit Go.MagM
set_option maxHeartbeats 4000000 in
theorem cCorner_any (x y : Int) (h01 : -9223372036854775808 ≤ x) (h02 : x < 9223372036854775808) (h11 : -9223372036854775808 ≤ y) (h12 : y < 9223372036854775808) (w : World) :
    Calls Try.prog 53 #[.int .i64 x, .int .i64 y] w fun e w' => AnsS w w' e (1) ((x : Rat)) ((y : Rat)) := by
  have hB_0 := Below.refl w.heap.size w
  have H01 := Lib.hid h01; have H02 := Lib.hid h02; have H11 := Lib.hid h11; have H12 := Lib.hid h12
  clear h01 h02 h11 h12
  obtain ⟨w1, hw1, pr_0, hb1, hs1⟩ := new_box w (w.heap.size) rfl [.bool false, .slice none 0 0, .slice none 0 0, .bool false, .slice none 0 0, .slice none 0 0] 42
  have hb1' : Below w.heap.size w w1 := hb1.mono (by omega)
  clear hb1
  have hB_1 := hB_0.trans (hb1'.mono hB_0.size)
  clear hb1' hB_0
  go_enter Try.func53, Try.ntmps53
  go_wp2_with fail
  refine (fOf_any x H01.out H02.out _).mono ?_
  rintro e w2 ⟨m1x, o1x, n1x, c1x, p1x, k1x, d1x, rfl, f1x_0, hb2⟩
  have hB_2 := hB_1.trans (hb2.mono hB_1.size)
  have pr_1 := pr_0.below hb2
  clear hb2 hB_1 pr_0
  go_wp2_with fail
  refine (fOf_any y H11.out H12.out _).mono ?_
  rintro e w3 ⟨m1y, o1y, n1y, c1y, p1y, k1y, d1y, rfl, f1y_0, hb3⟩
  have hB_3 := hB_2.trans (hb3.mono hB_2.size)
  have pr_2 := pr_1.below hb3
  have f1x_1 := f1x_0.below hb3
  clear hb3 hB_2 pr_1 f1x_0
  obtain ⟨sf1a, sf1b, sf1c, sf1d, sf1e, sf1f, sf1g, sf1h, sf1i, sf1j, sf1k, sf1l⟩ := pr_2.open6
  obtain ⟨sg1a, sg1b, sg1c, sg1d, sg1e, sg1f, sg1g, sg1h, sg1i, sg1j⟩ := Box.put6 pr_2 (.bool m1x) (.slice o1x n1x c1x) (.slice p1x k1x d1x) (.bool m1y) (.slice o1y n1y c1y)
  go_wp2
  clear sf1a sf1b sf1c sf1d sf1e sf1f sf1g sf1h sf1i sf1j sf1k sf1l sg1a sg1b sg1c sg1d sg1e sg1f sg1g sg1h sg1i sg1j
  have hB_4 := below_setAll hB_3 (g := w.heap.size) (by omega) [.bool m1x, .slice o1x n1x c1x, .slice p1x k1x d1x, .bool m1y, .slice o1y n1y c1y, .slice p1y k1y d1y]
  have f1x_2 := f1x_1.setAll pr_2 (noWord6 _ _ _ _ _ _ _ _ _ _ _ _ _ _) [.bool m1x, .slice o1x n1x c1x, .slice p1x k1x d1x, .bool m1y, .slice o1y n1y c1y, .slice p1y k1y d1y] rfl
  have f1y_1 := f1y_0.setAll pr_2 (noWord6 _ _ _ _ _ _ _ _ _ _ _ _ _ _) [.bool m1x, .slice o1x n1x c1x, .slice p1x k1x d1x, .bool m1y, .slice o1y n1y c1y, .slice p1y k1y d1y] rfl
  have pr_3 := pr_2.setAll [.bool m1x, .slice o1x n1x c1x, .slice p1x k1x d1x, .bool m1y, .slice o1y n1y c1y, .slice p1y k1y d1y] rfl
  simp only [setAll, Nat.zero_add, Nat.reduceAdd] at hB_4 pr_3 f1x_2 f1y_1
  clear hB_3 f1x_1 f1y_0 pr_2
  generalize (World.setCell (World.setCell (World.setCell (World.setCell (World.setCell (World.setCell w3 ⟨w.heap.size, 0, none⟩ (.bool m1x)) ⟨w.heap.size, 1, none⟩ (.slice o1x n1x c1x)) ⟨w.heap.size, 2, none⟩ (.slice p1x k1x d1x)) ⟨w.heap.size, 3, none⟩ (.bool m1y)) ⟨w.heap.size, 4, none⟩ (.slice o1y n1y c1y)) ⟨w.heap.size, 5, none⟩ (.slice p1y k1y d1y)) = w4 at *
  go_wp2
  obtain ⟨pre0, pre1, pre2, pre3, pre4, pre5, pre6, pre7, pre8, pre9, pre10, pre11⟩ := pr_3.open6
  exact bodyPost_ret (v := .agg #[.bool m1x, .slice o1x n1x c1x, .slice p1x k1x d1x, .bool m1y, .slice o1y n1y c1y, .slice p1y k1y d1y]) (by simp [results, Try.results53, go_sem, pre0, pre1, pre2, pre3, pre4, pre5]) rfl ⟨_, _, _, _, _, _, _, _, _, _, _, _, _, _, rfl, f1x_2, f1y_1, hB_4⟩
theorem boxL (n : Int) : boxQ (n : Rat) = [(((-n : Int) : Rat), ((-n : Int) : Rat)), ((n : Rat), ((-n : Int) : Rat)), ((n : Rat), (n : Rat)), (((-n : Int) : Rat), (n : Rat))] := by
  unfold boxQ; rw [Rat.intCast_neg]
theorem spots4R {w : World} {g : Nat} {m1x : Bool} {o1x : Option Addr} {n1x c1x : Nat} {p1x : Option Addr} {k1x d1x : Nat} {m1y : Bool} {o1y : Option Addr} {n1y c1y : Nat} {p1y : Option Addr} {k1y d1y : Nat} {m2x : Bool} {o2x : Option Addr} {n2x c2x : Nat} {p2x : Option Addr} {k2x d2x : Nat} {m2y : Bool} {o2y : Option Addr} {n2y c2y : Nat} {p2y : Option Addr} {k2y d2y : Nat} {m3x : Bool} {o3x : Option Addr} {n3x c3x : Nat} {p3x : Option Addr} {k3x d3x : Nat} {m3y : Bool} {o3y : Option Addr} {n3y c3y : Nat} {p3y : Option Addr} {k3y d3y : Nat} {m4x : Bool} {o4x : Option Addr} {n4x c4x : Nat} {p4x : Option Addr} {k4x d4x : Nat} {m4y : Bool} {o4y : Option Addr} {n4y c4y : Nat} {p4y : Option Addr} {k4y d4y : Nat} {L : Nat} {x1 y1 x2 y2 x3 y3 x4 y4 : Rat} (h : Box w g [.bool m1x, .slice o1x n1x c1x, .slice p1x k1x d1x, .bool m1y, .slice o1y n1y c1y, .slice p1y k1y d1y, .bool m2x, .slice o2x n2x c2x, .slice p2x k2x d2x, .bool m2y, .slice o2y n2y c2y, .slice p2y k2y d2y, .bool m3x, .slice o3x n3x c3x, .slice p3x k3x d3x, .bool m3y, .slice o3y n3y c3y, .slice p3y k3y d3y, .bool m4x, .slice o4x n4x c4x, .slice p4x k4x d4x, .bool m4y, .slice o4y n4y c4y, .slice p4y k4y d4y]) (f1x : RF w (.agg #[.bool m1x, .slice o1x n1x c1x, .slice p1x k1x d1x]) L x1) (f1y : RF w (.agg #[.bool m1y, .slice o1y n1y c1y, .slice p1y k1y d1y]) L y1) (f2x : RF w (.agg #[.bool m2x, .slice o2x n2x c2x, .slice p2x k2x d2x]) L x2) (f2y : RF w (.agg #[.bool m2y, .slice o2y n2y c2y, .slice p2y k2y d2y]) L y2) (f3x : RF w (.agg #[.bool m3x, .slice o3x n3x c3x, .slice p3x k3x d3x]) L x3) (f3y : RF w (.agg #[.bool m3y, .slice o3y n3y c3y, .slice p3y k3y d3y]) L y3) (f4x : RF w (.agg #[.bool m4x, .slice o4x n4x c4x, .slice p4x k4x d4x]) L x4) (f4y : RF w (.agg #[.bool m4y, .slice o4y n4y c4y, .slice p4y k4y d4y]) L y4) :
    SpotsR w (some ⟨g, 0, none⟩) L [(x1, y1), (x2, y2), (x3, y3), (x4, y4)] := by
  intro i x y hi
  have hi2 : i < 4 := by have := (List.getElem?_eq_some_iff.1 hi).1; simpa using this
  obtain rfl | rfl | rfl | rfl : i = 0 ∨ i = 1 ∨ i = 2 ∨ i = 3 := by omega
  · simp at hi; obtain ⟨rfl, rfl⟩ := hi
    exact ⟨g, 0, m1x, o1x, n1x, c1x, p1x, k1x, d1x, m1y, o1y, n1y, c1y, p1y, k1y, d1y, rfl, ⟨h.c 0 _ rfl, h.c 1 _ rfl, h.c 2 _ rfl, h.c 3 _ rfl, h.c 4 _ rfl, h.c 5 _ rfl⟩, f1x, f1y⟩
  · simp at hi; obtain ⟨rfl, rfl⟩ := hi
    exact ⟨g, 0, m2x, o2x, n2x, c2x, p2x, k2x, d2x, m2y, o2y, n2y, c2y, p2y, k2y, d2y, rfl, ⟨h.c 6 _ rfl, h.c 7 _ rfl, h.c 8 _ rfl, h.c 9 _ rfl, h.c 10 _ rfl, h.c 11 _ rfl⟩, f2x, f2y⟩
  · simp at hi; obtain ⟨rfl, rfl⟩ := hi
    exact ⟨g, 0, m3x, o3x, n3x, c3x, p3x, k3x, d3x, m3y, o3y, n3y, c3y, p3y, k3y, d3y, rfl, ⟨h.c 12 _ rfl, h.c 13 _ rfl, h.c 14 _ rfl, h.c 15 _ rfl, h.c 16 _ rfl, h.c 17 _ rfl⟩, f3x, f3y⟩
  · simp at hi; obtain ⟨rfl, rfl⟩ := hi
    exact ⟨g, 0, m4x, o4x, n4x, c4x, p4x, k4x, d4x, m4y, o4y, n4y, c4y, p4y, k4y, d4y, rfl, ⟨h.c 18 _ rfl, h.c 19 _ rfl, h.c 20 _ rfl, h.c 21 _ rfl, h.c 22 _ rfl, h.c 23 _ rfl⟩, f4x, f4y⟩
set_option maxRecDepth 100000 in
set_option maxHeartbeats 4000000 in
theorem cBox_1 (w : World) :
    Calls Try.prog 31 #[.int .i64 1] w fun e w' => AnsL w w' e (1) (boxQ ((1 : Int) : Rat)) := by
  have hB_0 := Below.refl w.heap.size w
  go_enter Try.func31, Try.ntmps31
  go_wp2_with fail
  refine (cCorner_any (-1) (-1) (by omega) (by omega) (by omega) (by omega) _).mono ?_
  rintro e w1 ⟨m1x, o1x, n1x, c1x, p1x, k1x, d1x, m1y, o1y, n1y, c1y, p1y, k1y, d1y, rfl, f1x_0, f1y_0, hb1⟩
  have hB_1 := hB_0.trans (hb1.mono hB_0.size)
  clear hb1 hB_0
  go_wp2_with fail
  refine (cCorner_any (1) (-1) (by omega) (by omega) (by omega) (by omega) _).mono ?_
  rintro e w2 ⟨m2x, o2x, n2x, c2x, p2x, k2x, d2x, m2y, o2y, n2y, c2y, p2y, k2y, d2y, rfl, f2x_0, f2y_0, hb2⟩
  have hB_2 := hB_1.trans (hb2.mono hB_1.size)
  have f1x_1 := f1x_0.below hb2
  have f1y_1 := f1y_0.below hb2
  clear hb2 hB_1 f1x_0 f1y_0
  go_wp2_with fail
  refine (cCorner_any (1) (1) (by omega) (by omega) (by omega) (by omega) _).mono ?_
  rintro e w3 ⟨m3x, o3x, n3x, c3x, p3x, k3x, d3x, m3y, o3y, n3y, c3y, p3y, k3y, d3y, rfl, f3x_0, f3y_0, hb3⟩
  have hB_3 := hB_2.trans (hb3.mono hB_2.size)
  have f1x_2 := f1x_1.below hb3
  have f1y_2 := f1y_1.below hb3
  have f2x_1 := f2x_0.below hb3
  have f2y_1 := f2y_0.below hb3
  clear hb3 hB_2 f1x_1 f1y_1 f2x_0 f2y_0
  go_wp2_with fail
  refine (cCorner_any (-1) (1) (by omega) (by omega) (by omega) (by omega) _).mono ?_
  rintro e w4 ⟨m4x, o4x, n4x, c4x, p4x, k4x, d4x, m4y, o4y, n4y, c4y, p4y, k4y, d4y, rfl, f4x_0, f4y_0, hb4⟩
  have hB_4 := hB_3.trans (hb4.mono hB_3.size)
  have f1x_3 := f1x_2.below hb4
  have f1y_3 := f1y_2.below hb4
  have f2x_2 := f2x_1.below hb4
  have f2y_2 := f2y_1.below hb4
  have f3x_1 := f3x_0.below hb4
  have f3y_1 := f3y_0.below hb4
  clear hb4 hB_3 f1x_2 f1y_2 f2x_1 f2y_1 f3x_0 f3y_0
  have hl1B := hB_4.size
  obtain ⟨w5, hw5, pq_0, hb5, hs5⟩ := new_box w4 (w4.heap.size) rfl [.bool m1x, .slice o1x n1x c1x, .slice p1x k1x d1x, .bool m1y, .slice o1y n1y c1y, .slice p1y k1y d1y, .bool m2x, .slice o2x n2x c2x, .slice p2x k2x d2x, .bool m2y, .slice o2y n2y c2y, .slice p2y k2y d2y, .bool m3x, .slice o3x n3x c3x, .slice p3x k3x d3x, .bool m3y, .slice o3y n3y c3y, .slice p3y k3y d3y, .bool m4x, .slice o4x n4x c4x, .slice p4x k4x d4x, .bool m4y, .slice o4y n4y c4y, .slice p4y k4y d4y] 42
  have hb5' : Below w4.heap.size w4 w5 := hb5.mono (by omega)
  clear hb5
  have hB_5 := hB_4.trans (hb5'.mono hB_4.size)
  have f1x_4 := f1x_3.below hb5'
  have f1y_4 := f1y_3.below hb5'
  have f2x_3 := f2x_2.below hb5'
  have f2y_3 := f2y_2.below hb5'
  have f3x_2 := f3x_1.below hb5'
  have f3y_2 := f3y_1.below hb5'
  have f4x_1 := f4x_0.below hb5'
  have f4y_1 := f4y_0.below hb5'
  clear hb5' hB_4 f1x_3 f1y_3 f2x_2 f2y_2 f3x_1 f3y_1 f4x_0 f4y_0
  go_wp2
  try rw [hw5]
  go_ret
  rw [boxL]
  exact ⟨_, _, rfl, spots4R pq_0 f1x_4 f1y_4 f2x_3 f2y_3 f3x_2 f3y_2 f4x_1 f4y_1, fun a ha => by cases ha; simp only []; have := hB_5.size; have := pq_0.lt; omega, hB_5⟩
set_option maxRecDepth 100000 in
set_option maxHeartbeats 4000000 in
theorem cBox_20 (w : World) :
    Calls Try.prog 31 #[.int .i64 20] w fun e w' => AnsL w w' e (1) (boxQ ((20 : Int) : Rat)) := by
  have hB_0 := Below.refl w.heap.size w
  go_enter Try.func31, Try.ntmps31
  go_wp2_with fail
  refine (cCorner_any (-20) (-20) (by omega) (by omega) (by omega) (by omega) _).mono ?_
  rintro e w1 ⟨m1x, o1x, n1x, c1x, p1x, k1x, d1x, m1y, o1y, n1y, c1y, p1y, k1y, d1y, rfl, f1x_0, f1y_0, hb1⟩
  have hB_1 := hB_0.trans (hb1.mono hB_0.size)
  clear hb1 hB_0
  go_wp2_with fail
  refine (cCorner_any (20) (-20) (by omega) (by omega) (by omega) (by omega) _).mono ?_
  rintro e w2 ⟨m2x, o2x, n2x, c2x, p2x, k2x, d2x, m2y, o2y, n2y, c2y, p2y, k2y, d2y, rfl, f2x_0, f2y_0, hb2⟩
  have hB_2 := hB_1.trans (hb2.mono hB_1.size)
  have f1x_1 := f1x_0.below hb2
  have f1y_1 := f1y_0.below hb2
  clear hb2 hB_1 f1x_0 f1y_0
  go_wp2_with fail
  refine (cCorner_any (20) (20) (by omega) (by omega) (by omega) (by omega) _).mono ?_
  rintro e w3 ⟨m3x, o3x, n3x, c3x, p3x, k3x, d3x, m3y, o3y, n3y, c3y, p3y, k3y, d3y, rfl, f3x_0, f3y_0, hb3⟩
  have hB_3 := hB_2.trans (hb3.mono hB_2.size)
  have f1x_2 := f1x_1.below hb3
  have f1y_2 := f1y_1.below hb3
  have f2x_1 := f2x_0.below hb3
  have f2y_1 := f2y_0.below hb3
  clear hb3 hB_2 f1x_1 f1y_1 f2x_0 f2y_0
  go_wp2_with fail
  refine (cCorner_any (-20) (20) (by omega) (by omega) (by omega) (by omega) _).mono ?_
  rintro e w4 ⟨m4x, o4x, n4x, c4x, p4x, k4x, d4x, m4y, o4y, n4y, c4y, p4y, k4y, d4y, rfl, f4x_0, f4y_0, hb4⟩
  have hB_4 := hB_3.trans (hb4.mono hB_3.size)
  have f1x_3 := f1x_2.below hb4
  have f1y_3 := f1y_2.below hb4
  have f2x_2 := f2x_1.below hb4
  have f2y_2 := f2y_1.below hb4
  have f3x_1 := f3x_0.below hb4
  have f3y_1 := f3y_0.below hb4
  clear hb4 hB_3 f1x_2 f1y_2 f2x_1 f2y_1 f3x_0 f3y_0
  have hl1B := hB_4.size
  obtain ⟨w5, hw5, pq_0, hb5, hs5⟩ := new_box w4 (w4.heap.size) rfl [.bool m1x, .slice o1x n1x c1x, .slice p1x k1x d1x, .bool m1y, .slice o1y n1y c1y, .slice p1y k1y d1y, .bool m2x, .slice o2x n2x c2x, .slice p2x k2x d2x, .bool m2y, .slice o2y n2y c2y, .slice p2y k2y d2y, .bool m3x, .slice o3x n3x c3x, .slice p3x k3x d3x, .bool m3y, .slice o3y n3y c3y, .slice p3y k3y d3y, .bool m4x, .slice o4x n4x c4x, .slice p4x k4x d4x, .bool m4y, .slice o4y n4y c4y, .slice p4y k4y d4y] 42
  have hb5' : Below w4.heap.size w4 w5 := hb5.mono (by omega)
  clear hb5
  have hB_5 := hB_4.trans (hb5'.mono hB_4.size)
  have f1x_4 := f1x_3.below hb5'
  have f1y_4 := f1y_3.below hb5'
  have f2x_3 := f2x_2.below hb5'
  have f2y_3 := f2y_2.below hb5'
  have f3x_2 := f3x_1.below hb5'
  have f3y_2 := f3y_1.below hb5'
  have f4x_1 := f4x_0.below hb5'
  have f4y_1 := f4y_0.below hb5'
  clear hb5' hB_4 f1x_3 f1y_3 f2x_2 f2y_2 f3x_1 f3y_1 f4x_0 f4y_0
  go_wp2
  try rw [hw5]
  go_ret
  rw [boxL]
  exact ⟨_, _, rfl, spots4R pq_0 f1x_4 f1y_4 f2x_3 f2y_3 f3x_2 f3y_2 f4x_1 f4y_1, fun a ha => by cases ha; simp only []; have := hB_5.size; have := pq_0.lt; omega, hB_5⟩
end Go.Proofs.Ytdfabocecpcmcaa
/- The statements' own tame, flat, turned; calls on polygons of small half-planes. -/
namespace Go.Proofs.Ytdfabocecpcmcaa
open Go.RowKit Go.MagM
theorem tame_small (X : Int) (D : Nat) : Sml (tameQ X D) := by
  unfold tameQ
  have hB0 : 0 < B := B_pos
  split
  · exact ⟨by simpa using hB0, by show 1 < B; unfold B; omega⟩
  · rename_i h
    have hd : (((D % B : Nat) : Int)) ≠ 0 := by omega
    have hdq : ((((D % B : Nat) : Int)) : Rat) ≠ 0 := fun e => hd (by exact_mod_cast e)
    have := parts_le (q := ((X.tmod (B : Int) : Int) : Rat) / (((D % B : Nat) : Int) : Rat)) hd (Rat.div_mul_cancel hdq)
    have h1 : (X.tmod (B : Int)).natAbs < B := by
      rw [Int.natAbs_tmod]; exact Nat.mod_lt _ (by simpa using hB0)
    have h2 := Nat.mod_lt D hB0
    have h3 : (((D % B : Nat) : Int)).natAbs = D % B := by omega
    exact ⟨by omega, by omega⟩
theorem FD_nil (w : World) : FD w (.agg #[.bool false, .slice none 0 0, .slice none 0 0]) 0 0 0 := ⟨_, _, _, _, _, _, _, rfl, ⟨false, _, 0, rfl, ⟨none, 0, 0, fun _ => 0, rfl, by omega, by omega, Reads.nil _ _ _, rfl⟩, rfl⟩, ⟨none, 0, 0, fun _ => 0, rfl, by omega, by omega, Reads.nil _ _ _, rfl⟩⟩
theorem sml_neg {q : Rat} (h : Sml q) : Sml (-q) := ⟨by rw [Rat.neg_num, Int.natAbs_neg]; exact h.1, by rw [Rat.neg_den]; exact h.2⟩
theorem Sml.seven {q : Rat} (h : Sml q) : q.num.natAbs < B ^ 7 ∧ q.den < B ^ 7 := by
  have : B ^ 1 ≤ B ^ 7 := Nat.pow_le_pow_right B_pos (by omega)
  rw [Nat.pow_one] at this
  exact ⟨by have := h.1; omega, by have := h.2; omega⟩
set_option maxHeartbeats 8000000 in
theorem htame_any {ham : Bool} {hao : Option Addr} {han hac : Nat} {hap : Option Addr} {hak had : Nat} {hbm : Bool} {hbo : Option Addr} {hbn hbc : Nat} {hbp : Option Addr} {hbk hbd : Nat} {hcm : Bool} {hco : Option Addr} {hcn hcc : Nat} {hcp : Option Addr} {hck hcd : Nat} (Lha Lhb Lhc : Nat) (Xha Xhb Xhc : Int) (Dha Dhb Dhc : Nat) (w : World) (fha_0 : FD w (.agg #[.bool ham, .slice hao han hac, .slice hap hak had]) Lha Xha Dha) (fhb_0 : FD w (.agg #[.bool hbm, .slice hbo hbn hbc, .slice hbp hbk hbd]) Lhb Xhb Dhb) (fhc_0 : FD w (.agg #[.bool hcm, .slice hco hcn hcc, .slice hcp hck hcd]) Lhc Xhc Dhc) :
    Calls Try.prog 10 #[.agg #[.bool ham, .slice hao han hac, .slice hap hak had, .bool hbm, .slice hbo hbn hbc, .slice hbp hbk hbd, .bool hcm, .slice hco hcn hcc, .slice hcp hck hcd]] w fun e w' => AnsH w w' e (1) (1) (1) (tameQ Xha Dha) (tameQ Xhb Dhb) (tameQ Xhc Dhc) := by
  have hB_0 := Below.refl w.heap.size w
  obtain ⟨w1, hw1, ph_0, hb1, hs1⟩ := new_box w (w.heap.size) rfl [.bool ham, .slice hao han hac, .slice hap hak had, .bool hbm, .slice hbo hbn hbc, .slice hbp hbk hbd, .bool hcm, .slice hco hcn hcc, .slice hcp hck hcd] 30
  have hb1' : Below w.heap.size w w1 := hb1.mono (by omega)
  clear hb1
  have hB_1 := hB_0.trans (hb1'.mono hB_0.size)
  have fha_1 := fha_0.below hb1'
  have fhb_1 := fhb_0.below hb1'
  have fhc_1 := fhc_0.below hb1'
  clear hb1' hB_0 fha_0 fhb_0 fhc_0
  obtain ⟨w2, hw2, pr_0, hb2, hs2⟩ := new_box w1 (w.heap.size + 1) hs1 [.bool false, .slice none 0 0, .slice none 0 0, .bool false, .slice none 0 0, .slice none 0 0, .bool false, .slice none 0 0, .slice none 0 0] 30
  have hb2' : Below w1.heap.size w1 w2 := hb2.mono (by omega)
  clear hb2
  have hB_2 := hB_1.trans (hb2'.mono hB_1.size)
  have fha_2 := fha_1.below hb2'
  have fhb_2 := fhb_1.below hb2'
  have fhc_2 := fhc_1.below hb2'
  have ph_1 := ph_0.below hb2'
  clear hb2' hB_1 fha_1 fhb_1 fhc_1 ph_0
  go_enter Try.func10, Try.ntmps10
  obtain ⟨phe0, phe1, phe2, phe3, phe4, phe5, phe6, phe7, phe8, phe9, phe10, phe11, phe12, phe13, phe14, phe15, phe16, phe17⟩ := ph_1.open9
  go_wp2_with fail
  refine (stame_any Lha Lhb Xha Xhb Dha Dhb _ fha_2 fhb_2).mono ?_
  rintro e w3 ⟨m1x, o1x, n1x, c1x, p1x, k1x, d1x, m1y, o1y, n1y, c1y, p1y, k1y, d1y, rfl, f1x_0, f1y_0, hb3⟩
  clear phe0 phe1 phe2 phe3 phe4 phe5 phe6 phe7 phe8 phe9 phe10 phe11 phe12 phe13 phe14 phe15 phe16 phe17
  have hB_3 := hB_2.trans (hb3.mono hB_2.size)
  have fha_3 := fha_2.below hb3
  have fhb_3 := fhb_2.below hb3
  have fhc_3 := fhc_2.below hb3
  have ph_2 := ph_1.below hb3
  have pr_1 := pr_0.below hb3
  clear hb3 hB_2 fha_2 fhb_2 fhc_2 ph_1 pr_0
  have hl1ph := ph_2.lt
  have hl1pr := pr_1.lt
  have hl1B := hB_3.size
  obtain ⟨w4, hw4, pt_0, hb4, hs4⟩ := new_box w3 (w3.heap.size) rfl [.bool m1x, .slice o1x n1x c1x, .slice p1x k1x d1x, .bool m1y, .slice o1y n1y c1y, .slice p1y k1y d1y] 42
  have hb4' : Below w3.heap.size w3 w4 := hb4.mono (by omega)
  clear hb4
  have hB_4 := hB_3.trans (hb4'.mono hB_3.size)
  have fha_4 := fha_3.below hb4'
  have fhb_4 := fhb_3.below hb4'
  have fhc_4 := fhc_3.below hb4'
  have ph_3 := ph_2.below hb4'
  have pr_2 := pr_1.below hb4'
  have f1x_1 := f1x_0.below hb4'
  have f1y_1 := f1y_0.below hb4'
  clear hb4' hB_3 fha_3 fhb_3 fhc_3 ph_2 pr_1 f1x_0 f1y_0
  obtain ⟨phe0, phe1, phe2, phe3, phe4, phe5, phe6, phe7, phe8, phe9, phe10, phe11, phe12, phe13, phe14, phe15, phe16, phe17⟩ := ph_3.open9
  go_wp2_with fail
  refine (stame_any Lhc 0 Xhc 0 Dhc 0 _ fhc_4 (FD_nil _)).mono ?_
  rintro e w5 ⟨m2x, o2x, n2x, c2x, p2x, k2x, d2x, m2y, o2y, n2y, c2y, p2y, k2y, d2y, rfl, f2x_0, f2y_0, hb5⟩
  clear phe0 phe1 phe2 phe3 phe4 phe5 phe6 phe7 phe8 phe9 phe10 phe11 phe12 phe13 phe14 phe15 phe16 phe17
  have hB_5 := hB_4.trans (hb5.mono hB_4.size)
  have fha_5 := fha_4.below hb5
  have fhb_5 := fhb_4.below hb5
  have fhc_5 := fhc_4.below hb5
  have ph_4 := ph_3.below hb5
  have pr_3 := pr_2.below hb5
  have f1x_2 := f1x_1.below hb5
  have f1y_2 := f1y_1.below hb5
  have pt_1 := pt_0.below hb5
  clear hb5 hB_4 fha_4 fhb_4 fhc_4 ph_3 pr_2 f1x_1 f1y_1 pt_0
  have hl2ph := ph_4.lt
  have hl2pr := pr_3.lt
  have hl2pt := pt_1.lt
  have hl2B := hB_5.size
  obtain ⟨w6, hw6, pu_0, hb6, hs6⟩ := new_box w5 (w5.heap.size) rfl [.bool m2x, .slice o2x n2x c2x, .slice p2x k2x d2x, .bool m2y, .slice o2y n2y c2y, .slice p2y k2y d2y] 42
  have hb6' : Below w5.heap.size w5 w6 := hb6.mono (by omega)
  clear hb6
  have hB_6 := hB_5.trans (hb6'.mono hB_5.size)
  have fha_6 := fha_5.below hb6'
  have fhb_6 := fhb_5.below hb6'
  have fhc_6 := fhc_5.below hb6'
  have ph_5 := ph_4.below hb6'
  have pr_4 := pr_3.below hb6'
  have f1x_3 := f1x_2.below hb6'
  have f1y_3 := f1y_2.below hb6'
  have pt_2 := pt_1.below hb6'
  have f2x_1 := f2x_0.below hb6'
  have f2y_1 := f2y_0.below hb6'
  clear hb6' hB_5 fha_5 fhb_5 fhc_5 ph_4 pr_3 f1x_2 f1y_2 pt_1 f2x_0 f2y_0
  obtain ⟨pte0, pte1, pte2, pte3, pte4, pte5, pte6, pte7, pte8, pte9, pte10, pte11⟩ := pt_2.open6
  obtain ⟨pue0, pue1, pue2, pue3, pue4, pue5, pue6, pue7, pue8, pue9, pue10, pue11⟩ := pu_0.open6
  obtain ⟨sf1a, sf1b, sf1c, sf1d, sf1e, sf1f, sf1g, sf1h, sf1i, sf1j, sf1k, sf1l, sf1m, sf1n, sf1o, sf1p, sf1q, sf1r⟩ := pr_4.open9
  obtain ⟨sg1a, sg1b, sg1c, sg1d, sg1e, sg1f, sg1g, sg1h, sg1i, sg1j, sg1k, sg1l, sg1m, sg1n, sg1o, sg1p⟩ := Box.put9 pr_4 (.bool m1x) (.slice o1x n1x c1x) (.slice p1x k1x d1x) (.bool m1y) (.slice o1y n1y c1y) (.slice p1y k1y d1y) (.bool m2x) (.slice o2x n2x c2x)
  go_wp2
  try rw [hw6]
  clear pte0 pte1 pte2 pte3 pte4 pte5 pte6 pte7 pte8 pte9 pte10 pte11 pue0 pue1 pue2 pue3 pue4 pue5 pue6 pue7 pue8 pue9 pue10 pue11 sf1a sf1b sf1c sf1d sf1e sf1f sf1g sf1h sf1i sf1j sf1k sf1l sf1m sf1n sf1o sf1p sf1q sf1r sg1a sg1b sg1c sg1d sg1e sg1f sg1g sg1h sg1i sg1j sg1k sg1l sg1m sg1n sg1o sg1p
  have hB_7 := below_setAll hB_6 (g := w.heap.size + 1) (by omega) [.bool m1x, .slice o1x n1x c1x, .slice p1x k1x d1x, .bool m1y, .slice o1y n1y c1y, .slice p1y k1y d1y, .bool m2x, .slice o2x n2x c2x, .slice p2x k2x d2x]
  have fha_7 := fha_6.setAll pr_4 (noWordB _ rfl) [.bool m1x, .slice o1x n1x c1x, .slice p1x k1x d1x, .bool m1y, .slice o1y n1y c1y, .slice p1y k1y d1y, .bool m2x, .slice o2x n2x c2x, .slice p2x k2x d2x] rfl
  have fhb_7 := fhb_6.setAll pr_4 (noWordB _ rfl) [.bool m1x, .slice o1x n1x c1x, .slice p1x k1x d1x, .bool m1y, .slice o1y n1y c1y, .slice p1y k1y d1y, .bool m2x, .slice o2x n2x c2x, .slice p2x k2x d2x] rfl
  have fhc_7 := fhc_6.setAll pr_4 (noWordB _ rfl) [.bool m1x, .slice o1x n1x c1x, .slice p1x k1x d1x, .bool m1y, .slice o1y n1y c1y, .slice p1y k1y d1y, .bool m2x, .slice o2x n2x c2x, .slice p2x k2x d2x] rfl
  have ph_6 := ph_5.farAll (g' := w.heap.size + 1) (by omega) [.bool m1x, .slice o1x n1x c1x, .slice p1x k1x d1x, .bool m1y, .slice o1y n1y c1y, .slice p1y k1y d1y, .bool m2x, .slice o2x n2x c2x, .slice p2x k2x d2x]
  have f1x_4 := f1x_3.setAll pr_4 (noWordB _ rfl) [.bool m1x, .slice o1x n1x c1x, .slice p1x k1x d1x, .bool m1y, .slice o1y n1y c1y, .slice p1y k1y d1y, .bool m2x, .slice o2x n2x c2x, .slice p2x k2x d2x] rfl
  have f1y_4 := f1y_3.setAll pr_4 (noWordB _ rfl) [.bool m1x, .slice o1x n1x c1x, .slice p1x k1x d1x, .bool m1y, .slice o1y n1y c1y, .slice p1y k1y d1y, .bool m2x, .slice o2x n2x c2x, .slice p2x k2x d2x] rfl
  have pt_3 := pt_2.farAll (g' := w.heap.size + 1) (by omega) [.bool m1x, .slice o1x n1x c1x, .slice p1x k1x d1x, .bool m1y, .slice o1y n1y c1y, .slice p1y k1y d1y, .bool m2x, .slice o2x n2x c2x, .slice p2x k2x d2x]
  have f2x_2 := f2x_1.setAll pr_4 (noWordB _ rfl) [.bool m1x, .slice o1x n1x c1x, .slice p1x k1x d1x, .bool m1y, .slice o1y n1y c1y, .slice p1y k1y d1y, .bool m2x, .slice o2x n2x c2x, .slice p2x k2x d2x] rfl
  have f2y_2 := f2y_1.setAll pr_4 (noWordB _ rfl) [.bool m1x, .slice o1x n1x c1x, .slice p1x k1x d1x, .bool m1y, .slice o1y n1y c1y, .slice p1y k1y d1y, .bool m2x, .slice o2x n2x c2x, .slice p2x k2x d2x] rfl
  have pu_1 := pu_0.farAll (g' := w.heap.size + 1) (by omega) [.bool m1x, .slice o1x n1x c1x, .slice p1x k1x d1x, .bool m1y, .slice o1y n1y c1y, .slice p1y k1y d1y, .bool m2x, .slice o2x n2x c2x, .slice p2x k2x d2x]
  have pr_5 := pr_4.setAll [.bool m1x, .slice o1x n1x c1x, .slice p1x k1x d1x, .bool m1y, .slice o1y n1y c1y, .slice p1y k1y d1y, .bool m2x, .slice o2x n2x c2x, .slice p2x k2x d2x] rfl
  simp only [setAll, Nat.zero_add, Nat.reduceAdd] at hB_7 fha_7 fhb_7 fhc_7 ph_6 pr_5 f1x_4 f1y_4 pt_3 f2x_2 f2y_2 pu_1
  clear hB_6 fha_6 fhb_6 fhc_6 ph_5 f1x_3 f1y_3 pt_2 f2x_1 f2y_1 pu_0 pr_4
  generalize (World.setCell (World.setCell (World.setCell (World.setCell (World.setCell (World.setCell (World.setCell (World.setCell (World.setCell w6 ⟨w.heap.size + 1, 0, none⟩ (.bool m1x)) ⟨w.heap.size + 1, 1, none⟩ (.slice o1x n1x c1x)) ⟨w.heap.size + 1, 2, none⟩ (.slice p1x k1x d1x)) ⟨w.heap.size + 1, 3, none⟩ (.bool m1y)) ⟨w.heap.size + 1, 4, none⟩ (.slice o1y n1y c1y)) ⟨w.heap.size + 1, 5, none⟩ (.slice p1y k1y d1y)) ⟨w.heap.size + 1, 6, none⟩ (.bool m2x)) ⟨w.heap.size + 1, 7, none⟩ (.slice o2x n2x c2x)) ⟨w.heap.size + 1, 8, none⟩ (.slice p2x k2x d2x)) = w7 at *
  go_wp2
  obtain ⟨pre0, pre1, pre2, pre3, pre4, pre5, pre6, pre7, pre8, pre9, pre10, pre11, pre12, pre13, pre14, pre15, pre16, pre17⟩ := pr_5.open9
  exact bodyPost_ret (v := .agg #[.bool m1x, .slice o1x n1x c1x, .slice p1x k1x d1x, .bool m1y, .slice o1y n1y c1y, .slice p1y k1y d1y, .bool m2x, .slice o2x n2x c2x, .slice p2x k2x d2x]) (by simp [results, Try.results10, go_sem, pre0, pre1, pre2, pre3, pre4, pre5, pre6, pre7, pre8]) rfl ⟨_, _, _, _, _, _, _, _, _, _, _, _, _, _, _, _, _, _, _, _, _, rfl, f1x_4, f1y_4, f2x_2, hB_7⟩
set_option maxHeartbeats 4000000 in
theorem hflat_f {ham : Bool} {hao : Option Addr} {han hac : Nat} {hap : Option Addr} {hak had : Nat} {hbm : Bool} {hbo : Option Addr} {hbn hbc : Nat} {hbp : Option Addr} {hbk hbd : Nat} {hcm : Bool} {hco : Option Addr} {hcn hcc : Nat} {hcp : Option Addr} {hck hcd : Nat} (Lh : Nat) (haq hbq : Rat) (w : World) (hLh : Lh ≤ 1000) (fha_0 : FQ w (.agg #[.bool ham, .slice hao han hac, .slice hap hak had]) Lh haq) (fhb_0 : FQ w (.agg #[.bool hbm, .slice hbo hbn hbc, .slice hbp hbk hbd]) Lh hbq) (s : Int) (ha : haq.num.sign = s) (E0 : (s == 0) = false) :
    Calls Try.prog 11 #[.agg #[.bool ham, .slice hao han hac, .slice hap hak had, .bool hbm, .slice hbo hbn hbc, .slice hbp hbk hbd, .bool hcm, .slice hco hcn hcc, .slice hcp hck hcd]] w fun e w' => e = .returned (.bool false) ∧ Below w.heap.size w w' := by
  have hB_0 := Below.refl w.heap.size w
  have HLh := Lib.hid hLh
  clear hLh
  have HA := Lib.hid ha; clear ha
  have e0 := E0; have HZ := Lib.hid E0; clear E0
  obtain ⟨w1, hw1, ph_0, hb1, hs1⟩ := new_box w (w.heap.size) rfl [.bool ham, .slice hao han hac, .slice hap hak had, .bool hbm, .slice hbo hbn hbc, .slice hbp hbk hbd, .bool hcm, .slice hco hcn hcc, .slice hcp hck hcd] 30
  have hb1' : Below w.heap.size w w1 := hb1.mono (by omega)
  clear hb1
  have hB_1 := hB_0.trans (hb1'.mono hB_0.size)
  have fha_1 := fha_0.below hb1'
  have fhb_1 := fhb_0.below hb1'
  clear hb1' hB_0 fha_0 fhb_0
  go_enter Try.func11, Try.ntmps11
  obtain ⟨phe0, phe1, phe2, phe3, phe4, phe5, phe6, phe7, phe8, phe9, phe10, phe11, phe12, phe13, phe14, phe15, phe16, phe17⟩ := ph_0.open9
  go_wp2_with fail
  refine (qSign _ Lh haq _ (by have := HLh.out; omega) fha_1 s HA.out).mono ?_
  rintro e w2 ⟨rfl, hb2⟩
  clear phe0 phe1 phe2 phe3 phe4 phe5 phe6 phe7 phe8 phe9 phe10 phe11 phe12 phe13 phe14 phe15 phe16 phe17
  have hB_2 := hB_1.trans (hb2.mono hB_1.size)
  have fha_2 := fha_1.below hb2
  have fhb_2 := fhb_1.below hb2
  have ph_1 := ph_0.below hb2
  clear hb2 hB_1 fha_1 fhb_1 ph_0
  obtain ⟨phe0, phe1, phe2, phe3, phe4, phe5, phe6, phe7, phe8, phe9, phe10, phe11, phe12, phe13, phe14, phe15, phe16, phe17⟩ := ph_1.open9
  go_wp2
  go_ret
  exact ⟨rfl, hB_2⟩
set_option maxHeartbeats 4000000 in
theorem hflat_t {ham : Bool} {hao : Option Addr} {han hac : Nat} {hap : Option Addr} {hak had : Nat} {hbm : Bool} {hbo : Option Addr} {hbn hbc : Nat} {hbp : Option Addr} {hbk hbd : Nat} {hcm : Bool} {hco : Option Addr} {hcn hcc : Nat} {hcp : Option Addr} {hck hcd : Nat} (Lh : Nat) (haq hbq : Rat) (w : World) (hLh : Lh ≤ 1000) (fha_0 : FQ w (.agg #[.bool ham, .slice hao han hac, .slice hap hak had]) Lh haq) (fhb_0 : FQ w (.agg #[.bool hbm, .slice hbo hbn hbc, .slice hbp hbk hbd]) Lh hbq) (s : Int) (q : Bool) (ha : haq.num.sign = 0) (hb : hbq.num.sign = s) (E0 : (s == 0) = q) :
    Calls Try.prog 11 #[.agg #[.bool ham, .slice hao han hac, .slice hap hak had, .bool hbm, .slice hbo hbn hbc, .slice hbp hbk hbd, .bool hcm, .slice hco hcn hcc, .slice hcp hck hcd]] w fun e w' => e = .returned (.bool q) ∧ Below w.heap.size w w' := by
  have hB_0 := Below.refl w.heap.size w
  have HLh := Lib.hid hLh
  clear hLh
  have HA := Lib.hid ha; clear ha
  have HZB := Lib.hid hb; have e0 := E0; clear hb E0
  obtain ⟨w1, hw1, ph_0, hb1, hs1⟩ := new_box w (w.heap.size) rfl [.bool ham, .slice hao han hac, .slice hap hak had, .bool hbm, .slice hbo hbn hbc, .slice hbp hbk hbd, .bool hcm, .slice hco hcn hcc, .slice hcp hck hcd] 30
  have hb1' : Below w.heap.size w w1 := hb1.mono (by omega)
  clear hb1
  have hB_1 := hB_0.trans (hb1'.mono hB_0.size)
  have fha_1 := fha_0.below hb1'
  have fhb_1 := fhb_0.below hb1'
  clear hb1' hB_0 fha_0 fhb_0
  go_enter Try.func11, Try.ntmps11
  obtain ⟨phe0, phe1, phe2, phe3, phe4, phe5, phe6, phe7, phe8, phe9, phe10, phe11, phe12, phe13, phe14, phe15, phe16, phe17⟩ := ph_0.open9
  go_wp2_with fail
  refine (qSign _ Lh haq _ (by have := HLh.out; omega) fha_1 0 HA.out).mono ?_
  rintro e w2 ⟨rfl, hb2⟩
  clear phe0 phe1 phe2 phe3 phe4 phe5 phe6 phe7 phe8 phe9 phe10 phe11 phe12 phe13 phe14 phe15 phe16 phe17
  have hB_2 := hB_1.trans (hb2.mono hB_1.size)
  have fha_2 := fha_1.below hb2
  have fhb_2 := fhb_1.below hb2
  have ph_1 := ph_0.below hb2
  clear hb2 hB_1 fha_1 fhb_1 ph_0
  obtain ⟨phe0, phe1, phe2, phe3, phe4, phe5, phe6, phe7, phe8, phe9, phe10, phe11, phe12, phe13, phe14, phe15, phe16, phe17⟩ := ph_1.open9
  go_wp2_with fail
  refine (qSign _ Lh hbq _ (by have := HLh.out; omega) fhb_2 s HZB.out).mono ?_
  rintro e w3 ⟨rfl, hb3⟩
  clear phe0 phe1 phe2 phe3 phe4 phe5 phe6 phe7 phe8 phe9 phe10 phe11 phe12 phe13 phe14 phe15 phe16 phe17
  have hB_3 := hB_2.trans (hb3.mono hB_2.size)
  have fha_3 := fha_2.below hb3
  have fhb_3 := fhb_2.below hb3
  have ph_2 := ph_1.below hb3
  clear hb3 hB_2 fha_2 fhb_2 ph_1
  obtain ⟨phe0, phe1, phe2, phe3, phe4, phe5, phe6, phe7, phe8, phe9, phe10, phe11, phe12, phe13, phe14, phe15, phe16, phe17⟩ := ph_2.open9
  go_wp2
  go_ret
  exact ⟨rfl, hB_3⟩
theorem sgn_eq0 (q : Rat) : q.num.sign = 0 ↔ q = 0 := by
  rcases sgn_cases q with ⟨h, e⟩ | ⟨h, e⟩ | ⟨h, e⟩ <;> rw [e] <;> constructor <;> intro k <;> first | grind | (exact absurd k (by decide)) | rfl
theorem hflat_any {ham : Bool} {hao : Option Addr} {han hac : Nat} {hap : Option Addr} {hak had : Nat} {hbm : Bool} {hbo : Option Addr} {hbn hbc : Nat} {hbp : Option Addr} {hbk hbd : Nat} {hcm : Bool} {hco : Option Addr} {hcn hcc : Nat} {hcp : Option Addr} {hck hcd : Nat} (Lh : Nat) (haq hbq : Rat) (w : World) (hLh : Lh ≤ 1000) (fha_0 : FQ w (.agg #[.bool ham, .slice hao han hac, .slice hap hak had]) Lh haq) (fhb_0 : FQ w (.agg #[.bool hbm, .slice hbo hbn hbc, .slice hbp hbk hbd]) Lh hbq) (q : Bool) (h : (haq = 0 ∧ hbq = 0) ↔ q = true) : Calls Try.prog 11 #[.agg #[.bool ham, .slice hao han hac, .slice hap hak had, .bool hbm, .slice hbo hbn hbc, .slice hbp hbk hbd, .bool hcm, .slice hco hcn hcc, .slice hcp hck hcd]] w fun e w' => e = .returned (.bool q) ∧ Below w.heap.size w w' := by
  by_cases ha : haq = 0
  · refine hflat_t Lh haq hbq w hLh fha_0 fhb_0 _ q (sgn_zero ha) rfl ?_
    by_cases hb : hbq = 0
    · rw [h.1 ⟨ha, hb⟩, sgn_zero hb]; rfl
    · have : q = false := by cases q with
        | false => rfl
        | true => exact absurd (h.2 rfl).2 hb
      rw [this]
      have := fun e => hb ((sgn_eq0 hbq).1 e)
      simpa using this
  · have : q = false := by cases q with
      | false => rfl
      | true => exact absurd (h.2 rfl).1 ha
    rw [this]
    refine hflat_f Lh haq hbq w hLh fha_0 fhb_0 _ rfl ?_
    have := fun e => ha ((sgn_eq0 haq).1 e)
    simpa using this
set_option maxHeartbeats 8000000 in
theorem hturned_any {ham : Bool} {hao : Option Addr} {han hac : Nat} {hap : Option Addr} {hak had : Nat} {hbm : Bool} {hbo : Option Addr} {hbn hbc : Nat} {hbp : Option Addr} {hbk hbd : Nat} {hcm : Bool} {hco : Option Addr} {hcn hcc : Nat} {hcp : Option Addr} {hck hcd : Nat} (haq hbq hcq : Rat) (w : World) (fha_0 : FQ w (.agg #[.bool ham, .slice hao han hac, .slice hap hak had]) 1 haq) (fhb_0 : FQ w (.agg #[.bool hbm, .slice hbo hbn hbc, .slice hbp hbk hbd]) 1 hbq) (fhc_0 : FQ w (.agg #[.bool hcm, .slice hco hcn hcc, .slice hcp hck hcd]) 1 hcq) :
    Calls Try.prog 13 #[.agg #[.bool ham, .slice hao han hac, .slice hap hak had, .bool hbm, .slice hbo hbn hbc, .slice hbp hbk hbd, .bool hcm, .slice hco hcn hcc, .slice hcp hck hcd]] w fun e w' => AnsH w w' e (1) (1) (1) (-haq) (-hbq) (-hcq) := by
  have hB_0 := Below.refl w.heap.size w
  obtain ⟨w1, hw1, ph_0, hb1, hs1⟩ := new_box w (w.heap.size) rfl [.bool ham, .slice hao han hac, .slice hap hak had, .bool hbm, .slice hbo hbn hbc, .slice hbp hbk hbd, .bool hcm, .slice hco hcn hcc, .slice hcp hck hcd] 30
  have hb1' : Below w.heap.size w w1 := hb1.mono (by omega)
  clear hb1
  have hB_1 := hB_0.trans (hb1'.mono hB_0.size)
  have fha_1 := fha_0.below hb1'
  have fhb_1 := fhb_0.below hb1'
  have fhc_1 := fhc_0.below hb1'
  clear hb1' hB_0 fha_0 fhb_0 fhc_0
  obtain ⟨w2, hw2, pr_0, hb2, hs2⟩ := new_box w1 (w.heap.size + 1) hs1 [.bool false, .slice none 0 0, .slice none 0 0, .bool false, .slice none 0 0, .slice none 0 0, .bool false, .slice none 0 0, .slice none 0 0] 30
  have hb2' : Below w1.heap.size w1 w2 := hb2.mono (by omega)
  clear hb2
  have hB_2 := hB_1.trans (hb2'.mono hB_1.size)
  have fha_2 := fha_1.below hb2'
  have fhb_2 := fhb_1.below hb2'
  have fhc_2 := fhc_1.below hb2'
  have ph_1 := ph_0.below hb2'
  clear hb2' hB_1 fha_1 fhb_1 fhc_1 ph_0
  go_enter Try.func13, Try.ntmps13
  go_wp2
  have hB_3 := hB_2.drew'
  have fha_3 := fha_2.drew
  have fhb_3 := fhb_2.drew
  have fhc_3 := fhc_2.drew
  have ph_2 := ph_1.drew
  have pr_1 := pr_0.drew
  clear hB_2 fha_2 fhb_2 fhc_2 ph_1 pr_0
  go_region_held3 (fun w' => w'.cell? ⟨w.heap.size, 0, none⟩ = some (.bool ham) ∧ w'.cell? ⟨w.heap.size, 1, none⟩ = some (.slice hao han hac) ∧ w'.cell? ⟨w.heap.size, 2, none⟩ = some (.slice hap hak had) ∧ w'.cell? ⟨w.heap.size, 3, none⟩ = some (.bool hbm) ∧ w'.cell? ⟨w.heap.size, 4, none⟩ = some (.slice hbo hbn hbc) ∧ w'.cell? ⟨w.heap.size, 5, none⟩ = some (.slice hbp hbk hbd) ∧ w'.cell? ⟨w.heap.size, 6, none⟩ = some (.bool hcm) ∧ w'.cell? ⟨w.heap.size, 7, none⟩ = some (.slice hco hcn hcc) ∧ w'.cell? ⟨w.heap.size, 8, none⟩ = some (.slice hcp hck hcd))
    (first | with_reducible exact ⟨ph_2.c0, ph_2.c1, ph_2.c2, ph_2.c3, ph_2.c4, ph_2.c5, ph_2.c6, ph_2.c7, ph_2.c8⟩ | with_reducible exact ⟨ph_3.c0, ph_3.c1, ph_3.c2, ph_3.c3, ph_3.c4, ph_3.c5, ph_3.c6, ph_3.c7, ph_3.c8⟩ | with_reducible exact ⟨ph_4.c0, ph_4.c1, ph_4.c2, ph_4.c3, ph_4.c4, ph_4.c5, ph_4.c6, ph_4.c7, ph_4.c8⟩ | with_reducible exact ⟨ph_5.c0, ph_5.c1, ph_5.c2, ph_5.c3, ph_5.c4, ph_5.c5, ph_5.c6, ph_5.c7, ph_5.c8⟩ | with_reducible exact ⟨ph_6.c0, ph_6.c1, ph_6.c2, ph_6.c3, ph_6.c4, ph_6.c5, ph_6.c6, ph_6.c7, ph_6.c8⟩ | fail)
    (first
      | (go_at_call 33; (with_reducible refine (qNeg _ 1 _ _ (by omega) fha_3).mono ?_); rintro e w3 ⟨m1a, o1a, n1a, c1a, p1a, k1a, d1a, rfl, f1a_0, hb3⟩; have hB_4 := hB_3.trans (hb3.mono hB_3.size); have fha_4 := fha_3.below hb3; have fhb_4 := fhb_3.below hb3; have fhc_4 := fhc_3.below hb3; have ph_3 := ph_2.below hb3; have pr_2 := pr_1.below hb3; clear hb3 hB_3 fha_3 fhb_3 fhc_3 ph_2 pr_1)
      | (go_at_call 33; (with_reducible refine (qNeg _ 1 _ _ (by omega) fhb_4).mono ?_); rintro e w4 ⟨m1b, o1b, n1b, c1b, p1b, k1b, d1b, rfl, f1b_0, hb4⟩; have hB_5 := hB_4.trans (hb4.mono hB_4.size); have fha_5 := fha_4.below hb4; have fhb_5 := fhb_4.below hb4; have fhc_5 := fhc_4.below hb4; have ph_4 := ph_3.below hb4; have pr_3 := pr_2.below hb4; have f1a_1 := f1a_0.below hb4; clear hb4 hB_4 fha_4 fhb_4 fhc_4 ph_3 pr_2 f1a_0)
      | (go_at_call 33; (with_reducible refine (qNeg _ 1 _ _ (by omega) fhc_5).mono ?_); rintro e w5 ⟨m1c, o1c, n1c, c1c, p1c, k1c, d1c, rfl, f1c_0, hb5⟩; have hB_6 := hB_5.trans (hb5.mono hB_5.size); have fha_6 := fha_5.below hb5; have fhb_6 := fhb_5.below hb5; have fhc_6 := fhc_5.below hb5; have ph_5 := ph_4.below hb5; have pr_4 := pr_3.below hb5; have f1a_2 := f1a_1.below hb5; have f1b_1 := f1b_0.below hb5; clear hb5 hB_5 fha_5 fhb_5 fhc_5 ph_4 pr_3 f1a_1 f1b_0; obtain ⟨sf1a, sf1b, sf1c, sf1d, sf1e, sf1f, sf1g, sf1h, sf1i, sf1j, sf1k, sf1l, sf1m, sf1n, sf1o, sf1p, sf1q, sf1r⟩ := pr_4.open9; obtain ⟨sg1a, sg1b, sg1c, sg1d, sg1e, sg1f, sg1g, sg1h, sg1i, sg1j, sg1k, sg1l, sg1m, sg1n, sg1o, sg1p⟩ := Box.put9 pr_4 (.bool m1a) (.slice o1a n1a c1a) (.slice p1a k1a d1a) (.bool m1b) (.slice o1b n1b c1b) (.slice p1b k1b d1b) (.bool m1c) (.slice o1c n1c c1c); have hB_7 := below_setAll hB_6 (g := w.heap.size + 1) (by omega) [.bool m1a, .slice o1a n1a c1a, .slice p1a k1a d1a, .bool m1b, .slice o1b n1b c1b, .slice p1b k1b d1b, .bool m1c, .slice o1c n1c c1c, .slice p1c k1c d1c]; have fha_7 := fha_6.setAll pr_4 (noWordB _ rfl) [.bool m1a, .slice o1a n1a c1a, .slice p1a k1a d1a, .bool m1b, .slice o1b n1b c1b, .slice p1b k1b d1b, .bool m1c, .slice o1c n1c c1c, .slice p1c k1c d1c] rfl; have fhb_7 := fhb_6.setAll pr_4 (noWordB _ rfl) [.bool m1a, .slice o1a n1a c1a, .slice p1a k1a d1a, .bool m1b, .slice o1b n1b c1b, .slice p1b k1b d1b, .bool m1c, .slice o1c n1c c1c, .slice p1c k1c d1c] rfl; have fhc_7 := fhc_6.setAll pr_4 (noWordB _ rfl) [.bool m1a, .slice o1a n1a c1a, .slice p1a k1a d1a, .bool m1b, .slice o1b n1b c1b, .slice p1b k1b d1b, .bool m1c, .slice o1c n1c c1c, .slice p1c k1c d1c] rfl; have ph_6 := ph_5.farAll (g' := w.heap.size + 1) (by omega) [.bool m1a, .slice o1a n1a c1a, .slice p1a k1a d1a, .bool m1b, .slice o1b n1b c1b, .slice p1b k1b d1b, .bool m1c, .slice o1c n1c c1c, .slice p1c k1c d1c]; have f1a_3 := f1a_2.setAll pr_4 (noWordB _ rfl) [.bool m1a, .slice o1a n1a c1a, .slice p1a k1a d1a, .bool m1b, .slice o1b n1b c1b, .slice p1b k1b d1b, .bool m1c, .slice o1c n1c c1c, .slice p1c k1c d1c] rfl; have f1b_2 := f1b_1.setAll pr_4 (noWordB _ rfl) [.bool m1a, .slice o1a n1a c1a, .slice p1a k1a d1a, .bool m1b, .slice o1b n1b c1b, .slice p1b k1b d1b, .bool m1c, .slice o1c n1c c1c, .slice p1c k1c d1c] rfl; have f1c_1 := f1c_0.setAll pr_4 (noWordB _ rfl) [.bool m1a, .slice o1a n1a c1a, .slice p1a k1a d1a, .bool m1b, .slice o1b n1b c1b, .slice p1b k1b d1b, .bool m1c, .slice o1c n1c c1c, .slice p1c k1c d1c] rfl; have pr_5 := pr_4.setAll [.bool m1a, .slice o1a n1a c1a, .slice p1a k1a d1a, .bool m1b, .slice o1b n1b c1b, .slice p1b k1b d1b, .bool m1c, .slice o1c n1c c1c, .slice p1c k1c d1c] rfl; simp only [setAll, Nat.zero_add, Nat.reduceAdd] at hB_7 fha_7 fhb_7 fhc_7 ph_6 pr_5 f1a_3 f1b_2 f1c_1))
  clear hB_6 fha_6 fhb_6 fhc_6 ph_5 f1a_2 f1b_1 f1c_0 pr_4
  clear sf1a sf1b sf1c sf1d sf1e sf1f sf1g sf1h sf1i sf1j sf1k sf1l sf1m sf1n sf1o sf1p sf1q sf1r sg1a sg1b sg1c sg1d sg1e sg1f sg1g sg1h sg1i sg1j sg1k sg1l sg1m sg1n sg1o sg1p
  generalize (World.setCell (World.setCell (World.setCell (World.setCell (World.setCell (World.setCell (World.setCell (World.setCell (World.setCell w5 ⟨w.heap.size + 1, 0, none⟩ (.bool m1a)) ⟨w.heap.size + 1, 1, none⟩ (.slice o1a n1a c1a)) ⟨w.heap.size + 1, 2, none⟩ (.slice p1a k1a d1a)) ⟨w.heap.size + 1, 3, none⟩ (.bool m1b)) ⟨w.heap.size + 1, 4, none⟩ (.slice o1b n1b c1b)) ⟨w.heap.size + 1, 5, none⟩ (.slice p1b k1b d1b)) ⟨w.heap.size + 1, 6, none⟩ (.bool m1c)) ⟨w.heap.size + 1, 7, none⟩ (.slice o1c n1c c1c)) ⟨w.heap.size + 1, 8, none⟩ (.slice p1c k1c d1c)) = w6 at *
  go_wp2
  obtain ⟨pre0, pre1, pre2, pre3, pre4, pre5, pre6, pre7, pre8, pre9, pre10, pre11, pre12, pre13, pre14, pre15, pre16, pre17⟩ := pr_5.open9
  exact bodyPost_ret (v := .agg #[.bool m1a, .slice o1a n1a c1a, .slice p1a k1a d1a, .bool m1b, .slice o1b n1b c1b, .slice p1b k1b d1b, .bool m1c, .slice o1c n1c c1c, .slice p1c k1c d1c]) (by simp [results, Try.results13, go_sem, pre0, pre1, pre2, pre3, pre4, pre5, pre6, pre7, pre8]) rfl ⟨_, _, _, _, _, _, _, _, _, _, _, _, _, _, _, _, _, _, _, _, _, rfl, f1a_3, f1b_2, f1c_1, hB_7⟩
theorem clipPoly {ham : Bool} {hao : Option Addr} {han hac : Nat} {hap : Option Addr} {hak had : Nat} {hbm : Bool} {hbo : Option Addr} {hbn hbc : Nat} {hbp : Option Addr} {hbk hbd : Nat} {hcm : Bool} {hco : Option Addr} {hcn hcc : Nat} {hcp : Option Addr} {hck hcd : Nat} (ao : Option Addr) (n c : Nat) (l : List (Rat × Rat)) (haq hbq hcq : Rat) (w : World) (hn : l.length = n) (hn9 : n ≤ 1000) (hp : Poly l) (hs : SmlH (haq, hbq, hcq)) (hAB : haq ≠ 0 ∨ hbq ≠ 0) (hsp : SpotsR w ao 7 l) (fha_0 : FQ w (.agg #[.bool ham, .slice hao han hac, .slice hap hak had]) 1 haq) (fhb_0 : FQ w (.agg #[.bool hbm, .slice hbo hbn hbc, .slice hbp hbk hbd]) 1 hbq) (fhc_0 : FQ w (.agg #[.bool hcm, .slice hco hcn hcc, .slice hcp hck hcd]) 1 hcq) :
    Calls Try.prog 12 #[.slice ao n c, .agg #[.bool ham, .slice hao han hac, .slice hap hak had, .bool hbm, .slice hbo hbn hbc, .slice hbp hbk hbd, .bool hcm, .slice hco hcn hcc, .slice hcp hck hcd]] w fun e w' => AnsL w w' e 7 (clipQ haq hbq hcq l) :=
  (cClip_any ao n c l 1 7 haq hbq hcq w hn hn9 (by omega) (by omega) hsp fha_0 fhb_0 fhc_0).mono fun e w' g => g.of (clipP_eq hAB hp.1) fun ao hsp => hsp.short fun i x y hi => (hp.clip hAB hs).small (by rw [clipP_eq hAB hp.1] at hi; exact hi)
theorem box1n (w : World) : Calls Try.prog 31 #[.int .i64 1] w fun e w' => AnsM w w' e 7 4 (boxQ ((1 : Int) : Rat)) := (cBox_1 w).mono fun e w' g => (g.of rfl fun _ h => h.more (by omega)).m rfl
theorem box20n (w : World) : Calls Try.prog 31 #[.int .i64 20] w fun e w' => AnsM w w' e 7 4 (boxQ ((20 : Int) : Rat)) := (cBox_20 w).mono fun e w' g => (g.of rfl fun _ h => h.more (by omega)).m rfl
theorem half_box : clipQ ((1 : Int) : Rat) ((0 : Int) : Rat) ((0 : Int) : Rat) (boxQ ((1 : Int) : Rat)) = [(-1, -1), (0, -1), (0, 1), (-1, 1)] := by
  have z : ((0 : Int) : Rat) = 0 := rfl
  have o : ((1 : Int) : Rat) = 1 := rfl
  rw [z, o, clipQ_pos ⟨0, by simp [boxQ], by simp [boxQ, cor, fvQ]; grind⟩, cutQ_flat]
  have d : (-1 : Rat) / (-1 - 1) = 1 / 2 := by grind
  have d2 : (1 : Rat) / (1 - -1) = 1 / 2 := by grind
  simp [boxQ, cor, cutAt, crossPt, fvQ, wayQ, List.range_succ, List.range_zero]
  grind
theorem half_area : areaQ [((-1 : Rat), (-1 : Rat)), (0, -1), (0, 1), (-1, 1)] = ((4 : Int) : Rat) := by
  have o : ((4 : Int) : Rat) = 4 := rfl
  rw [o, area_dsum]; simp [dsum, det]; grind
theorem half_conv : Conv0 [((-1 : Rat), (-1 : Rat)), (0, -1), (0, 1), (-1, 1)] := by
  have h := (box_poly (n := 1) (by omega) (by show 1 < B; unfold B; omega)).1
  have := clip_conv0 (A := ((1 : Int) : Rat)) (B := ((0 : Int) : Rat)) (C := ((0 : Int) : Rat)) h
  rwa [half_box] at this
theorem fit_half (w : World) {ao : Option Addr} {c : Nat} {ham : Bool} {hao : Option Addr} {han hac : Nat} {hap : Option Addr} {hak had : Nat} {hbm : Bool} {hbo : Option Addr} {hbn hbc : Nat} {hbp : Option Addr} {hbk hbd : Nat} {hcm : Bool} {hco : Option Addr} {hcn hcc : Nat} {hcp : Option Addr} {hck hcd : Nat} (hsp : SpotsR w ao 7 (boxQ ((1 : Int) : Rat))) (fha_0 : FQ w (.agg #[.bool ham, .slice hao han hac, .slice hap hak had]) 1 ((1 : Int) : Rat)) (fhb_0 : FQ w (.agg #[.bool hbm, .slice hbo hbn hbc, .slice hbp hbk hbd]) 1 ((0 : Int) : Rat)) (fhc_0 : FQ w (.agg #[.bool hcm, .slice hco hcn hcc, .slice hcp hck hcd]) 1 ((0 : Int) : Rat)) :
    Calls Try.prog 12 #[.slice ao 4 c, .agg #[.bool ham, .slice hao han hac, .slice hap hak had, .bool hbm, .slice hbo hbn hbc, .slice hbp hbk hbd, .bool hcm, .slice hco hcn hcc, .slice hcp hck hcd]] w fun e w' => AnsM w w' e 7 4 [(-1, -1), (0, -1), (0, 1), (-1, 1)] :=
  (clipPoly ao 4 c _ _ _ _ w rfl (by omega) (box_poly (by omega) (by show 1 < B; unfold B; omega)) ⟨sml_int (by show 1 < B; unfold B; omega), sml_int (by show 0 < B; unfold B; omega), sml_int (by show 0 < B; unfold B; omega)⟩ (.inl (by decide)) hsp fha_0 fhb_0 fhc_0).mono fun e w' g => (g.of half_box fun _ h => h).m rfl
set_option maxHeartbeats 4000000 in
theorem cfit_any (w : World) :
    Calls Try.prog 8 #[] w fun e w' => e = .returned (.bool true) ∧ Below w.heap.size w w' := by
  have hB_0 := Below.refl w.heap.size w
  go_enter Try.func8, Try.ntmps8
  go_wp2_with fail
  refine (box1n _).mono ?_
  rintro e w1 ⟨ao1, ac1, rfl, sp1_0, fr1, hb1⟩
  have hB_1 := hB_0.trans (hb1.mono hB_0.size)
  clear hb1 hB_0
  go_wp2_with fail
  refine (fOf_any 1 (by omega) (by omega) _).mono ?_
  rintro e w2 ⟨m1a, o1a, n1a, c1a, p1a, k1a, d1a, rfl, f1a_0, hb2⟩
  have hB_2 := hB_1.trans (hb2.mono hB_1.size)
  have sp1_1 := sp1_0.below hb2
  clear hb2 hB_1 sp1_0
  go_wp2_with fail
  refine (fOf_any 0 (by omega) (by omega) _).mono ?_
  rintro e w3 ⟨m1b, o1b, n1b, c1b, p1b, k1b, d1b, rfl, f1b_0, hb3⟩
  have hB_3 := hB_2.trans (hb3.mono hB_2.size)
  have sp1_2 := sp1_1.below hb3
  have f1a_1 := f1a_0.below hb3
  clear hb3 hB_2 sp1_1 f1a_0
  go_wp2_with fail
  refine (fOf_any 0 (by omega) (by omega) _).mono ?_
  rintro e w4 ⟨m1c, o1c, n1c, c1c, p1c, k1c, d1c, rfl, f1c_0, hb4⟩
  have hB_4 := hB_3.trans (hb4.mono hB_3.size)
  have sp1_3 := sp1_2.below hb4
  have f1a_2 := f1a_1.below hb4
  have f1b_1 := f1b_0.below hb4
  clear hb4 hB_3 sp1_2 f1a_1 f1b_0
  go_wp2_with fail
  refine (fit_half _ sp1_3 f1a_2.q f1b_1.q f1c_0.q).mono ?_
  rintro e w5 ⟨ao2, ac2, rfl, sp2_0, fr2, hb5⟩
  have hB_5 := hB_4.trans (hb5.mono hB_4.size)
  have sp1_4 := sp1_3.below hb5
  have f1a_3 := f1a_2.below hb5
  have f1b_2 := f1b_1.below hb5
  have f1c_1 := f1c_0.below hb5
  clear hb5 hB_4 sp1_3 f1a_2 f1b_1 f1c_0
  go_wp2_with fail
  refine (sArea2_any ao2 4 ac2 _ 7 _ rfl (by omega) (by omega) sp2_0.spots).mono ?_
  rintro e w6 ⟨m3, o3, n3, c3, p3, k3, d3, rfl, f3_0, hb6⟩
  have hB_6 := hB_5.trans (hb6.mono hB_5.size)
  have sp1_5 := sp1_4.below hb6
  have f1a_4 := f1a_3.below hb6
  have f1b_3 := f1b_2.below hb6
  have f1c_2 := f1c_1.below hb6
  have sp2_1 := sp2_0.below hb6
  clear hb6 hB_5 sp1_4 f1a_3 f1b_2 f1c_1 sp2_0
  go_wp2_with fail
  refine (fOf_any 4 (by omega) (by omega) _).mono ?_
  rintro e w7 ⟨m4, o4, n4, c4, p4, k4, d4, rfl, f4_0, hb7⟩
  have hB_7 := hB_6.trans (hb7.mono hB_6.size)
  have sp1_6 := sp1_5.below hb7
  have f1a_5 := f1a_4.below hb7
  have f1b_4 := f1b_3.below hb7
  have f1c_3 := f1c_2.below hb7
  have sp2_2 := sp2_1.below hb7
  have f3_1 := f3_0.below hb7
  clear hb7 hB_6 sp1_5 f1a_4 f1b_3 f1c_2 sp2_1 f3_0
  go_wp2_with fail
  refine (qSame_yes _ _ _ _ _ _ _ (by omega) (by omega) f3_1.q f4_0.q half_area).mono ?_
  rintro e w8 ⟨rfl, hb8⟩
  have hB_8 := hB_7.trans (hb8.mono hB_7.size)
  have sp1_7 := sp1_6.below hb8
  have f1a_6 := f1a_5.below hb8
  have f1b_5 := f1b_4.below hb8
  have f1c_4 := f1c_3.below hb8
  have sp2_3 := sp2_2.below hb8
  have f3_2 := f3_1.below hb8
  have f4_1 := f4_0.below hb8
  clear hb8 hB_7 sp1_6 f1a_5 f1b_4 f1c_3 sp2_2 f3_1 f4_0
  go_wp2_with fail
  refine (cConvex_yes ao2 4 ac2 _ 7 _ rfl (by omega) (by omega) sp2_3 half_conv).mono ?_
  rintro e w9 ⟨rfl, hb9⟩
  have hB_9 := hB_8.trans (hb9.mono hB_8.size)
  have sp1_8 := sp1_7.below hb9
  have f1a_7 := f1a_6.below hb9
  have f1b_6 := f1b_5.below hb9
  have f1c_5 := f1c_4.below hb9
  have sp2_4 := sp2_3.below hb9
  have f3_3 := f3_2.below hb9
  have f4_2 := f4_1.below hb9
  clear hb9 hB_8 sp1_7 f1a_6 f1b_5 f1c_4 sp2_3 f3_2 f4_1
  go_wp2
  go_ret
  exact ⟨rfl, hB_9⟩
end Go.Proofs.Ytdfabocecpcmcaa
/- The calls of clip: Cell. -/
namespace Go.Proofs.Ytdfabocecpcmcaa
open Go.RowKit Go.MagM
end Go.Proofs.Ytdfabocecpcmcaa
namespace Go.MagM
open Go.RowKit
theorem take_at {l : List (Rat × Rat)} {k : Nat} {p : Rat × Rat} (h : l[k]? = some p) : l.take (k + 1) = l.take k ++ [p] := by
  rw [List.take_succ_eq_append_getElem (List.getElem?_eq_some_iff.1 h).1, (List.getElem?_eq_some_iff.1 h).2]
/-- The cells of a slice of right Spots, as a row. -/
theorem SpotsR.cells {w : World} {g o L : Nat} {l : List (Rat × Rat)} (h : SpotsR w (some ⟨g, o, none⟩) L l) : ∀ k, k ≤ l.length → ∃ xs, SrR w L xs (l.take k) ∧ ∀ j u, xs[j]? = some u → w.cell? ⟨g, o + j, none⟩ = some u
  | 0, _ => ⟨[], SrR.nil _ _, fun j u hu => by simp at hu⟩
  | k + 1, hk => by
    obtain ⟨xs, h1, h2⟩ := SpotsR.cells h k (by omega)
    obtain ⟨⟨x, y⟩, hlk⟩ : ∃ p, l[k]? = some p := ⟨_, List.getElem?_eq_getElem (by omega)⟩
    obtain ⟨b, o', m1x, o1x, n1x, c1x, p1x, k1x, d1x, m1y, o1y, n1y, c1y, p1y, k1y, d1y, hao, dd, hx, hy⟩ := h k x y hlk
    simp at hao
    obtain ⟨rfl, rfl⟩ := hao
    refine ⟨xs ++ [.bool m1x, .slice o1x n1x c1x, .slice p1x k1x d1x, .bool m1y, .slice o1y n1y c1y, .slice p1y k1y d1y], by rw [take_at hlk]; exact h1.append (SrR.one hx hy), fun j u hu => ?_⟩
    have hl := h1.2.2.1
    rw [List.length_take, Nat.min_eq_left (by omega)] at hl
    by_cases hj : j < xs.length
    · rw [List.getElem?_append_left hj] at hu; exact h2 j u hu
    · rw [List.getElem?_append_right (by omega)] at hu
      have hj6 := (List.getElem?_eq_some_iff.1 hu).1
      simp at hj6
      obtain ⟨r, hr⟩ : ∃ r, j = xs.length + r := ⟨j - xs.length, by omega⟩
      subst hr
      rw [Nat.add_sub_cancel_left] at hu
      have hr6 : r < 6 := by omega
      rw [hl]
      obtain rfl | rfl | rfl | rfl | rfl | rfl : r = 0 ∨ r = 1 ∨ r = 2 ∨ r = 3 ∨ r = 4 ∨ r = 5 := by omega
      · simp at hu; subst hu; exact dd.c0
      · simp at hu; subst hu; exact dd.c1
      · simp at hu; subst hu; exact dd.c2
      · simp at hu; subst hu; exact dd.c3
      · simp at hu; subst hu; exact dd.c4
      · simp at hu; subst hu; exact dd.c5
/-- The slice at ao holds these points. -/
def PtsAt (w : World) (ao : Option Addr) (l : List (Int × Int)) : Prop :=
  ∀ i x y, l[i]? = some (x, y) → ∃ b o, ao = some ⟨b, o, none⟩ ∧ w.cell? ⟨b, o + i * 2, none⟩ = some (.int .i64 x) ∧ w.cell? ⟨b, o + i * 2 + 1, none⟩ = some (.int .i64 y)
theorem PtsAt.below {w w' : World} {ao : Option Addr} {l : List (Int × Int)} (h : PtsAt w ao l) (hb : Below w.heap.size w w') : PtsAt w' ao l := by
  intro i x y hi
  obtain ⟨b, o, h0, h1, h2⟩ := h i x y hi
  have hlt := World.block_lt_of_cell? w _ h1
  exact ⟨b, o, h0, (hb.cell (p := ⟨b, o + i * 2, none⟩) hlt).trans h1, (hb.cell (p := ⟨b, o + i * 2 + 1, none⟩) hlt).trans h2⟩
end Go.MagM
namespace Go.Proofs.Ytdfabocecpcmcaa
open Go.RowKit Go.MagM
theorem info_spotG : (Try.prog.info? 42).map (fun i => (i.zero, i.size, i.bytes)) = some (some (.agg #[.bool false, .slice none 0 0, .slice none 0 0, .bool false, .slice none 0 0, .slice none 0 0]), 6, 112) := by kernel_rfl
set_option maxRecDepth 100000 in
set_option maxHeartbeats 16000000 in
theorem cClone_any (b o n c : Nat) (l : List (Rat × Rat)) (L : Nat) (w : World) (hn : l.length = n) (h0 : 0 < n) (hn9 : n ≤ 1000) (hsp : SpotsR w (some ⟨b, o, none⟩) L l) :
    Calls Try.prog 52 #[.slice (some ⟨b, o, none⟩) n c] w fun e w' => AnsL w w' e (L) (l) := by
  have hB_0 := Below.refl w.heap.size w
  obtain ⟨i0, hi, hz0, hz1, hz2⟩ := info_parts info_spotG
  have HI := Lib.hid hi; have HZ0 := Lib.hid hz0; have HZ1 := Lib.hid hz1; have HZ2 := Lib.hid hz2
  clear hi hz0 hz1 hz2
  obtain ⟨xs, hxs, hcs⟩ := hsp.cells n (by omega)
  rw [show l.take n = l from by rw [← hn]; exact List.take_length] at hxs
  have HCS := Lib.hid hcs; have HN := Lib.hid hn
  clear hcs hn hsp
  have sr_0 := hxs; clear hxs
  have heq : ∀ w : World, Sem.run Try.prog (binOp BinOp.eql 32 (Value.slice (some ⟨b, o, none⟩) n c) (Value.slice none 0 0)) w = Result.ok (Value.bool false) w := fun w => by kernel_rfl
  go_enter Try.func52, Try.ntmps52
  obtain ⟨w1, hw1, pe_0, hb1, hs1⟩ := new_box w (w.heap.size) rfl [] 42
  have hb1' : Below w.heap.size w w1 := hb1.mono (by omega)
  clear hb1
  have hB_1 := hB_0.trans (hb1'.mono hB_0.size)
  have sr_1 := sr_0.below hb1'
  clear hb1' hB_0 sr_0
  have hcs : ∀ j u, xs[j]? = some u → w1.cell? ((⟨b, o, none⟩ : Addr).add j) = some u := fun j u hu => by
    have h1 := HCS.out j u hu
    rw [addr_add]
    exact (hB_1.cell (p := ⟨b, o + j, none⟩) (World.block_lt_of_cell? w _ h1)).trans h1
  obtain ⟨v1, wa, hrun, rown, hgrow, hkept⟩ := run_append_moved (P := Try.prog) w1 w1.heap.size 32 32 42 i0 (.agg #[.bool false, .slice none 0 0, .slice none 0 0, .bool false, .slice none 0 0, .slice none 0 0]) 6 112 (by kernel_rfl) HI.out HZ0.out HZ1.out HZ2.out rfl (noWord6 _ _ _ _ _ _ _ _ _ _ _ _ _ _) ⟨w.heap.size, 0, none⟩ 0 [] rfl (fun j u hu => by simp at hu) (fun u hu => by cases hu) ⟨b, o, none⟩ n c xs h0 (by rw [sr_1.2.2.1, HN.out]) hcs sr_1.2.1 (by unfold maxLen; omega) (by omega) (Nat.le_refl _)
  go_wp2_with (refine wpList_append_row rfl _ _ 32 rfl rfl rfl hrun ?_)
  have hBa := hB_1.grown hgrow (by have := hB_1.size; omega) (fun k hk => by cases hk)
  have sra := sr_1.kept hkept
  have hws := hB_1.size
  rw [Nat.zero_add, List.nil_append] at rown
  have hlt := rown.lt
  obtain ⟨ao', c', rfl, hsv⟩ := sra.spotsR rown HN.out
  clear hrun
  have hh : l.length = n := HN.out
  go_wp2
  go_ret
  exact ⟨ao', c', by rw [hh]; rfl, hsv, fun a ha => by have := hlt a.block (by rw [ha]; rfl); omega, hBa⟩
theorem near_ints (p0 p1 q0 q1 : Int) : nearH ((p0 : Rat), (p1 : Rat)) ((q0 : Rat), (q1 : Rat)) = (((2 * (q0 - p0) : Int) : Rat), ((2 * (q1 - p1) : Int) : Rat), ((q0 * q0 + q1 * q1 - p0 * p0 - p1 * p1 : Int) : Rat)) := by
  unfold nearH
  simp only [Rat.intCast_mul, Rat.intCast_sub, Rat.intCast_add]
  have two : ((2 : Int) : Rat) = 2 := rfl
  rw [two]
theorem sq_le {x : Int} (h : InP x) : 0 ≤ x * x ∧ x * x ≤ 4611686018427387904 := by
  unfold InP at h
  have h1 : x.natAbs ≤ 2147483648 := by omega
  have h2 := Nat.mul_le_mul h1 h1
  have h3 : ((x.natAbs * x.natAbs : Nat) : Int) = x * x := Int.natAbs_mul_self
  omega
theorem near_small {p0 p1 q0 q1 : Int} (hp0 : InP p0) (hp1 : InP p1) (hq0 : InP q0) (hq1 : InP q1) : SmlH (nearH ((p0 : Rat), (p1 : Rat)) ((q0 : Rat), (q1 : Rat))) := by
  rw [near_ints]
  have a := sq_le hp0; have b := sq_le hp1; have c := sq_le hq0; have d := sq_le hq1
  unfold InP at hp0 hp1 hq0 hq1
  generalize p0 * p0 = u at *
  generalize p1 * p1 = v at *
  generalize q0 * q0 = x at *
  generalize q1 * q1 = y at *
  refine ⟨sml_int ?_, sml_int ?_, sml_int ?_⟩
  · unfold B; omega
  · unfold B; omega
  · unfold B; omega
theorem near_ne {p0 p1 q0 q1 : Int} (h : (q0, q1) ≠ (p0, p1)) : Half0 (nearH ((p0 : Rat), (p1 : Rat)) ((q0 : Rat), (q1 : Rat))) := by
  refine near_half fun e => h ?_
  have h1 := Rat.intCast_inj.1 (congrArg Prod.fst e)
  have h2 := Rat.intCast_inj.1 (congrArg Prod.snd e)
  rw [h1, h2]
theorem cNearerS (p0 p1 q0 q1 : Int) (hp0 : InP p0) (hp1 : InP p1) (hq0 : InP q0) (hq1 : InP q1) (w : World) : Calls Try.prog 25 #[.agg #[.int .i64 p0, .int .i64 p1], .agg #[.int .i64 q0, .int .i64 q1]] w fun e w' => AnsH w w' e (1) (1) (1) ((nearH ((p0 : Rat), (p1 : Rat)) ((q0 : Rat), (q1 : Rat))).1) ((nearH ((p0 : Rat), (p1 : Rat)) ((q0 : Rat), (q1 : Rat))).2.1) ((nearH ((p0 : Rat), (p1 : Rat)) ((q0 : Rat), (q1 : Rat))).2.2) := by
  refine (cNearer_any p0 p1 q0 q1 hp0 hp1 hq0 hq1 w).mono fun e w' g => ?_
  have s := near_small hp0 hp1 hq0 hq1
  obtain ⟨m1a, o1a, n1a, c1a, p1a, k1a, d1a, m1b, o1b, n1b, c1b, p1b, k1b, d1b, m1c, o1c, n1c, c1c, p1c, k1c, d1c, h1, h2, h3, h4, h5⟩ := g
  have hp : B ^ 1 = B := Nat.pow_one B
  exact ⟨m1a, o1a, n1a, c1a, p1a, k1a, d1a, m1b, o1b, n1b, c1b, p1b, k1b, d1b, m1c, o1c, n1c, c1c, p1c, k1c, d1c, h1, h2.short (by rw [hp]; exact s.1.1) (by rw [hp]; exact s.1.2), h3.short (by rw [hp]; exact s.2.1.1) (by rw [hp]; exact s.2.1.2), h4.short (by rw [hp]; exact s.2.2.1) (by rw [hp]; exact s.2.2.2), h5⟩
theorem cNearerN (p0 p1 q0 q1 : Int) (hp0 : InP p0) (hp1 : InP p1) (hq0 : InP q0) (hq1 : InP q1) (u v x : Rat) (h : nearH ((p0 : Rat), (p1 : Rat)) ((q0 : Rat), (q1 : Rat)) = (u, v, x)) (w : World) : Calls Try.prog 25 #[.agg #[.int .i64 p0, .int .i64 p1], .agg #[.int .i64 q0, .int .i64 q1]] w fun e w' => AnsH w w' e (1) (1) (1) (u) (v) (x) := by
  have k := cNearerS p0 p1 q0 q1 hp0 hp1 hq0 hq1 w
  rw [h] at k
  exact k
/-- The cell's half-planes. -/
def cellH (p : Int × Int) (l : List (Int × Int)) : List (Rat × Rat × Rat) := l.map (fun q => nearH (ptQ p) (ptQ q))
theorem cellH_succ {p : Int × Int} {l : List (Int × Int)} {k : Nat} {q : Int × Int} (h : l[k]? = some q) (P : List (Rat × Rat)) : foldQ (cellH p (l.take (k + 1))) P = clipQ (nearH (ptQ p) (ptQ q)).1 (nearH (ptQ p) (ptQ q)).2.1 (nearH (ptQ p) (ptQ q)).2.2 (foldQ (cellH p (l.take k)) P) := by
  have e : l.take (k + 1) = l.take k ++ [q] := by
    rw [List.take_succ_eq_append_getElem (List.getElem?_eq_some_iff.1 h).1, (List.getElem?_eq_some_iff.1 h).2]
  unfold cellH
  rw [e, List.map_append, fold_app]; rfl
set_option maxRecDepth 100000 in
set_option maxHeartbeats 16000000 in
theorem cCell_any (p0 p1 : Int) (ao : Option Addr) (m mc : Nat) (l : List (Int × Int)) (b o n c : Nat) (P : List (Rat × Rat)) (w : World) (hp0 : InP p0) (hp1 : InP p1) (hm : l.length = m) (hm9 : m ≤ 100) (hot : PtsAt w ao l) (hin : ∀ q, q ∈ l → InP q.1 ∧ InP q.2) (hne : ∀ q, q ∈ l → q ≠ (p0, p1)) (hP : P.length = n) (h0 : 0 < n) (hn9 : n ≤ 100) (hpoly : Poly P) (hsp : SpotsR w (some ⟨b, o, none⟩) 7 P) :
    Calls Try.prog 30 #[.agg #[.int .i64 p0, .int .i64 p1], .slice ao m mc, .slice (some ⟨b, o, none⟩) n c] w fun e w' => AnsL w w' e (7) (foldQ (cellH (p0, p1) (l)) P) := by
  have hB_0 := Below.refl w.heap.size w
  have HP0 := Lib.hid hp0; have HP1 := Lib.hid hp1; have HOT := Lib.hid hot; have HIN := Lib.hid hin; have HNE := Lib.hid hne; have HPOLY := Lib.hid hpoly; have HP := Lib.hid hP
  clear hp0 hp1 hot hin hne hpoly hP
  obtain ⟨w1, hw1, pp_0, hb1, hs1⟩ := new_box w (w.heap.size) rfl [.int .i64 p0, .int .i64 p1] 50
  have hb1' : Below w.heap.size w w1 := hb1.mono (by omega)
  clear hb1
  have hB_1 := hB_0.trans (hb1'.mono hB_0.size)
  clear hb1' hB_0
  go_enter Try.func30, Try.ntmps30
  go_wp2_with fail
  refine (cClone_any b o n c P 7 _ HP.out h0 (by omega) (hsp.below hB_1)).mono ?_
  rintro e w2 ⟨ao1, ac1, rfl, sp1_0, fr1, hb2⟩
  have hB_2 := hB_1.trans (hb2.mono hB_1.size)
  have pp_1 := pp_0.below hb2
  clear hb2 hB_1 pp_0
  go_wp2
  have hB9 := hB_2
  go_loopw [7, 14] (fun pv iv wr => ∃ k n0 : Nat, ∃ ao c, k ≤ m ∧ iv = .int .i64 k ∧ pv = .slice ao n0 c ∧ (foldQ (cellH (p0, p1) (l.take k)) P).length = n0 ∧ n0 ≤ n + 2 * k ∧ Poly (foldQ (cellH (p0, p1) (l.take k)) P) ∧ (∀ a, ao = some a → w.heap.size ≤ a.block) ∧ SpotsR wr ao 7 (foldQ (cellH (p0, p1) (l.take k)) P) ∧ Below w.heap.size w wr ∧ Box wr w.heap.size [.int .i64 p0, .int .i64 p1]) (fun _ iv _ => m - (intOf iv).toNat)
  case atStart => exact ⟨0, n, ao1, _, Nat.zero_le _, rfl, by rw [HP.out], by rw [List.take_zero]; exact HP.out, by omega, by rw [List.take_zero]; exact HPOLY.out, fun a ha => by have h1 := fr1 a ha; have h2 := hB9.size; omega, by rw [List.take_zero]; exact sp1_0, hB_2, pp_1⟩
  case round =>
    obtain ⟨k, n0, po, pc, hk, rfl, rfl, hPk, hn0, hpk, frsp, sp_0, hB_0, pp_0⟩ := hrel
    have HPK := Lib.hid hPk; have HPP := Lib.hid hpk; clear hPk hpk
    by_cases hlt : k < m
    · obtain ⟨⟨q0, q1⟩, hlk⟩ : ∃ q, l[k]? = some q := ⟨_, List.getElem?_eq_getElem (by omega)⟩
      have hmem := List.mem_of_getElem? hlk
      obtain ⟨ib0, ib1⟩ := HIN.out _ hmem
      have hqn := HNE.out _ hmem
      obtain ⟨bq, oq, hao, ee0, ee1⟩ := (HOT.out.below hB_0) k q0 q1 hlk
      subst hao
      have hS := cellH_succ (p := (p0, p1)) hlk P
      have hsm := near_small HP0.out HP1.out ib0 ib1
      have hab := near_ne hqn
      unfold ptQ at hS
      obtain ⟨⟨u, v, x⟩, hN⟩ : ∃ t, nearH ((p0 : Rat), (p1 : Rat)) ((q0 : Rat), (q1 : Rat)) = t := ⟨_, rfl⟩
      simp only [hN] at hS hsm hab
      have SML := Lib.hid hsm; have HAB := Lib.hid (show u ≠ 0 ∨ v ≠ 0 from hab); have HN := Lib.hid hN
      clear hsm hab hN
      have HS := Lib.hid hS; have IB0 := Lib.hid ib0; have IB1 := Lib.hid ib1; have HQN := Lib.hid hqn
      clear hS hlk hmem ib0 ib1 hqn
      have hl1pp := pp_0.lt
      have hl1B := hB_0.size
      obtain ⟨w3, hw3, pq_0, hb3, hs3⟩ := new_box wr (wr.heap.size) rfl [.int .i64 q0, .int .i64 q1] 50
      have hb3' : Below wr.heap.size wr w3 := hb3.mono (by omega)
      clear hb3
      have hB_1 := hB_0.trans (hb3'.mono hB_0.size)
      have sp_1 := sp_0.below hb3'
      have pp_1 := pp_0.below hb3'
      clear hb3' hB_0 sp_0 pp_0
      obtain ⟨ppe0, ppe1, ppe2, ppe3⟩ := pp_1.open2
      obtain ⟨pqe0, pqe1, pqe2, pqe3⟩ := pq_0.open2
      go_wp2_with fail
      refine (cNearerN p0 p1 q0 q1 HP0.out HP1.out IB0.out IB1.out u v x HN.out _).mono ?_
      rintro e w4 ⟨m1a, o1a, n1a, c1a, p1a, k1a, d1a, m1b, o1b, n1b, c1b, p1b, k1b, d1b, m1c, o1c, n1c, c1c, p1c, k1c, d1c, rfl, f1a_0, f1b_0, f1c_0, hb4⟩
      clear ppe0 ppe1 ppe2 ppe3 pqe0 pqe1 pqe2 pqe3
      have hB_2 := hB_1.trans (hb4.mono hB_1.size)
      have sp_2 := sp_1.below hb4
      have pp_2 := pp_1.below hb4
      have pq_1 := pq_0.below hb4
      clear hb4 hB_1 sp_1 pp_1 pq_0
      clear ee0 ee1
      have hws := hB_2.size
      go_wp2_with fail
      refine (clipPoly po n0 pc (foldQ (cellH (p0, p1) (l.take k)) P) _ _ _ _ HPK.out (by omega) HPP.out SML.out HAB.out sp_2 f1a_0.q f1b_0.q f1c_0.q).mono ?_
      rintro e w5 ⟨ao3, ac3, rfl, sp3_0, fr3, hb5⟩
      have hB_3 := hB_2.trans (hb5.mono hB_2.size)
      have sp_3 := sp_2.below hb5
      have pp_3 := pp_2.below hb5
      have pq_2 := pq_1.below hb5
      have f1a_1 := f1a_0.below hb5
      have f1b_1 := f1b_0.below hb5
      have f1c_1 := f1c_0.below hb5
      clear hb5 hB_2 sp_2 pp_2 pq_1 f1a_0 f1b_0 f1c_0
      have hcl := clip_len HAB.out (C := x) HPP.out.1
      rw [HPK.out] at hcl
      have HPP2 := Lib.hid (HPP.out.clip HAB.out SML.out)
      have sp4_0 := sp3_0
      rw [← HS.out] at sp4_0 hcl
      have hpp2 := HPP2.out
      rw [← HS.out] at hpp2
      try rw [← HS.out]
      generalize hLn : (foldQ (cellH (p0, p1) (l.take (k + 1))) P).length = n3 at *
      have HLN := Lib.hid hLn; have HP2 := Lib.hid hpp2; clear hLn hpp2 HPP2
      go_wp2
      refine ⟨⟨k + 1, n3, _, _, by omega, by go_num, rfl, HLN.out, by omega, HP2.out, fun a ha => by have h1 := fr3 a ha; omega, sp4_0, hB_3, pp_3⟩, by simp [intOf]; omega⟩
    · obtain rfl : k = m := by omega
      have hlt : l.take k = l := by rw [← hm]; exact List.take_length
      have HLT := Lib.hid hlt; clear hlt
      go_wp2
      go_ret
      have hP := HPK.out
      rw [HLT.out] at hP sp_0
      exact ⟨po, pc, by rw [hP]; rfl, sp_0, frsp, hB_0⟩
end Go.Proofs.Ytdfabocecpcmcaa
