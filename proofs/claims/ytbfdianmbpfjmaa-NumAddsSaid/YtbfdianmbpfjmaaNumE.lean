/- The calls of num, on: Add, Sub, Mul of any Nums; Sum. -/
import Derived.Test.YtbfdianmbpfjmaaNumD
namespace Go.Proofs.Ytbfdianmbpfjmaa
open Go.RowKit Go.MagM
theorem nMul_any (va vb : Value) (L L' : Nat) (X Y : Int) (w : World) (hL : L ≤ 2000000000) (hL' : L' ≤ 2000000000) (ha : Num w va L X) (hb : Num w vb L' Y) :
    Calls Try.prog 17 #[va, vb] w fun e w' => AnsNum w w' e (L + L') (X * Y) := by
  obtain ⟨m, va', N, rfl, hma, rfl⟩ := ha
  obtain ⟨k, vb', M, rfl, hmb, rfl⟩ := hb
  exact (Mul_mags k m va' vb' L L' N M w hL hL' hma hmb).mono fun e w' h => h.of (Nat.le_refl _) (sgn_mul m k N M)
theorem nAdd_any (va vb : Value) (L L' : Nat) (X Y : Int) (w : World) (hL : L ≤ 2000000000) (hL' : L' ≤ 2000000000) (ha : Num w va L X) (hb : Num w vb L' Y) :
    Calls Try.prog 15 #[va, vb] w fun e w' => AnsNum w w' e (max L L' + 1) (X + Y) := by
  obtain ⟨m, va', N, rfl, hma, rfl⟩ := ha
  obtain ⟨k, vb', M, rfl, hmb, rfl⟩ := hb
  by_cases hmk : m = k
  · subst hmk
    exact (Add_same m va' vb' L L' N M w hL hL' hma hmb).mono fun e w' h => h.of (Nat.le_refl _) (sgn_add m N M)
  · have hk : k = !m := by cases m <;> cases k <;> simp at hmk <;> rfl
    subst hk
    rcases Nat.lt_trichotomy N M with h | h | h
    · exact (Add_less m va' vb' L L' N M w hL hL' hma hmb h).mono fun e w' g => g.of (Nat.le_refl _) (sgn_flip m N M (by omega))
    · exact (Add_even m va' vb' L L' N M w hL hL' hma hmb h).mono fun e w' g => g.of (Nat.le_refl _) (sgn_sub m N M (by omega))
    · exact (Add_more m va' vb' L L' N M w hL hL' hma hmb h).mono fun e w' g => g.of (Nat.le_refl _) (sgn_sub m N M (by omega))
set_option maxHeartbeats 4000000 in
theorem nSub_any (va vb : Value) (L L' : Nat) (X Y : Int) (w : World) (hL : L ≤ 2000000000) (hL' : L' ≤ 2000000000) (ha : Num w va L X) (hb : Num w vb L' Y) :
    Calls Try.prog 16 #[va, vb] w fun e w' => AnsNum w w' e (max L L' + 1) (X - Y) := by
  obtain ⟨m, va', N, rfl, hma, hX⟩ := ha
  obtain ⟨k, vb', M, rfl, hmb, hY⟩ := hb
  obtain ⟨bo, bn, bc, rfl⟩ := hmb.slice
  obtain ⟨b0, b1, b2, hB0⟩ := boxed3 w (.bool m) va' (.bool !k) (.slice bo bn bc) (.bool false) (.slice none 0 0) 25
  have hma1 := hma.below hB0
  have hmb1 := hmb.below hB0
  have hAN : Num _ (.agg #[.bool m, va']) L X := ⟨m, va', N, rfl, hma1, hX⟩
  have hBN : Num _ (.agg #[.bool !k, .slice bo bn bc]) L' (-Y) := ⟨!k, _, M, rfl, hmb1, by rw [sgn_neg, hY]⟩
  have hc := nAdd_any _ _ L L' X (-Y) _ hL hL' hAN hBN
  have CC := Lib.hid hc; have A2 := Lib.hid b2; have H1 := Lib.hid hB0
  clear hma hmb hma1 hmb1 hAN hBN hc b0 b1 b2 hB0 hX hY
  go_enter Try.func16, Try.ntmps16
  go_wp2_with fail
  refine CC.out.mono ?_
  rintro e w2 ⟨m2, ao2, n2, c2, rfl, h2, hb2⟩
  obtain ⟨p0, p1, p2, p3⟩ := A2.out.below hb2
  have hB2 := H1.out.trans (hb2.mono H1.out.size)
  clear hb2
  go_wp2
  exact bodyPost_ret (v := .agg #[.bool m2, .slice ao2 n2 c2]) (by simp [results, Try.results16, go_sem, p0, p1]) rfl ⟨_, _, _, _, rfl, (RNum.of h2 (by omega)).set2 ⟨p0, p1, p2, p3⟩ _ _, below_set2 hB2 (by omega) _ _⟩
/-- A slice of Nums: what its cells hold. -/
def Nums (w : World) (ao : Option Addr) (l : List (Nat × Int)) : Prop :=
  ∀ i L X, l[i]? = some (L, X) → ∃ b o m so sn sc, ao = some ⟨b, o, none⟩ ∧ w.cell? ⟨b, o + i * 2, none⟩ = some (.bool m) ∧ w.cell? ⟨b, o + i * 2 + 1, none⟩ = some (.slice so sn sc) ∧ Num w (.agg #[.bool m, .slice so sn sc]) L X
theorem Nums.below {w w' : World} {ao : Option Addr} {l : List (Nat × Int)} (h : Nums w ao l) (hb : Below w.heap.size w w') : Nums w' ao l := by
  intro i L X hi
  obtain ⟨b, o, m, so, sn, sc, h1, h2, h3, h4⟩ := h i L X hi
  have hlt := World.block_lt_of_cell? w _ h2
  exact ⟨b, o, m, so, sn, sc, h1, (hb.cell (p := ⟨b, o + i * 2, none⟩) hlt).trans h2, (hb.cell (p := ⟨b, o + i * 2 + 1, none⟩) hlt).trans h3, h4.below hb⟩
/-- How many words a sum may have, and what it is. -/
def sumLen (l : List (Nat × Int)) (k : Nat) : Nat := ((l.take k).map Prod.fst).foldl (fun a b => max a b + 1) 0
def sumVal (l : List (Nat × Int)) (k : Nat) : Int := ((l.take k).map Prod.snd).sum
theorem take_next {l : List (Nat × Int)} {k : Nat} {a : Nat × Int} (h : l[k]? = some a) : l.take (k + 1) = l.take k ++ [a] := by
  have hk : k < l.length := (List.getElem?_eq_some_iff.1 h).1
  rw [List.take_succ_eq_append_getElem hk, (List.getElem?_eq_some_iff.1 h).2]
theorem sumLen_succ {l : List (Nat × Int)} {k : Nat} {L : Nat} {X : Int} (h : l[k]? = some (L, X)) : sumLen l (k + 1) = max (sumLen l k) L + 1 := by
  unfold sumLen; rw [take_next h, List.map_append, List.foldl_append]; rfl
theorem sumVal_succ {l : List (Nat × Int)} {k : Nat} {L : Nat} {X : Int} (h : l[k]? = some (L, X)) : sumVal l (k + 1) = sumVal l k + X := by
  unfold sumVal; rw [take_next h, List.map_append, List.sum_append]; simp
theorem sumLen_le {l : List (Nat × Int)} {M : Nat} (h : ∀ L X, (L, X) ∈ l → L ≤ M) : ∀ k, k ≤ l.length → sumLen l k ≤ M + k
  | 0, _ => Nat.zero_le _
  | k + 1, hk => by
    have hk' : k < l.length := hk
    have ih := sumLen_le h k (by omega)
    have hm := h (l[k]).1 (l[k]).2 (List.getElem_mem hk')
    rw [sumLen_succ (L := (l[k]).1) (X := (l[k]).2) (List.getElem?_eq_getElem hk')]
    omega
set_option maxHeartbeats 4000000 in
theorem Sum_go (ao : Option Addr) (n c : Nat) (l : List (Nat × Int)) (w : World) (hn : l.length = n) (hn9 : n ≤ 1000000) (hl : ∀ L X, (L, X) ∈ l → L ≤ 1000000000) (ha : Nums w ao l) :
    Calls Try.prog 27 #[.slice ao n c] w fun e w' => AnsNum w w' e (sumLen l n) (sumVal l n) := by
  have HA := Lib.hid ha; have HN := Lib.hid hn; have HL := Lib.hid hl; clear ha hn hl
  obtain ⟨b0, b1, hB0⟩ := boxed2 w (.bool false) (.slice none 0 0) (.bool false) (.slice none 0 0) 25
  have B0 := Lib.hid b0; have B1 := Lib.hid b1; have H0 := Lib.hid hB0; clear b0 b1 hB0
  go_enter Try.func27, Try.ntmps27
  go_wp2
  go_loopw [9] (fun iv wr => ∃ k : Nat, k ≤ n ∧ iv = .int .i64 k ∧ Below w.heap.size w wr ∧ Box2 wr w.heap.size (.bool false) (.slice none 0 0) ∧
    ∃ m tp tn tc, Box2 wr (w.heap.size + 1) (.bool m) (.slice tp tn tc) ∧ RNum wr (.agg #[.bool m, .slice tp tn tc]) (sumLen l k) (sumVal l k)) (fun iv _ => n - (intOf iv).toNat)
  case atStart => exact ⟨0, Nat.zero_le _, rfl, H0.out, B0.out, false, none, 0, 0, B1.out, ⟨false, _, 0, rfl, RMag.nil _, rfl, fun h => by cases h⟩⟩
  case round =>
    obtain ⟨k, hk, rfl, hbel, hb0, m, tp, tn, tc, hb1, hr⟩ := hrel
    have HB := Lib.hid hbel; have HB0 := Lib.hid hb0; have HB1 := Lib.hid hb1; have HR := Lib.hid hr
    by_cases hlt : k < n
    · obtain ⟨Lk, Xk, hlk⟩ : ∃ Lk Xk, l[k]? = some (Lk, Xk) := ⟨_, _, List.getElem?_eq_getElem (by rw [HN.out]; exact hlt)⟩
      obtain ⟨b, o, m2, so, sn, sc, h1, h2, h3, h4⟩ := (HA.out.below hbel) k Lk Xk hlk
      subst h1
      have HLK := Lib.hid hlk; have H4 := Lib.hid h4
      clear hlk h4 hr hbel hb0
      obtain ⟨x0, x1, x2, x3⟩ := hb1
      obtain ⟨s0, s1, s2, s3⟩ := HB1.out.alloc (Obj.cells #[Value.bool m2, Value.slice so sn sc] 25)
      have hal : Below wr.heap.size wr (wr.alloc (Obj.cells #[Value.bool m2, Value.slice so sn sc] 25)) := (Below.refl _ _).alloc (Nat.le_refl _) _
      have hsl : sumLen l k ≤ 2000000000 := by
        have h1 := sumLen_le HL.out k (by rw [HN.out]; exact hk)
        omega
      have hLk : Lk ≤ 2000000000 := by
        have h1 := HL.out Lk Xk (List.mem_of_getElem? HLK.out)
        omega
      have cc := nAdd_any _ _ (sumLen l k) Lk (sumVal l k) Xk _ hsl hLk (HR.out.num.below hal) (H4.out.below hal)
      have CC := Lib.hid cc; have HAL := Lib.hid hal
      clear cc hal hsl hLk x0 x1 x2 x3
      obtain ⟨x0, x1, x2, x3⟩ := HB1.out
      go_wp2_with fail
      refine CC.out.mono ?_
      rintro e w1 ⟨m3, ao3, n3, c3, rfl, h5, hb5⟩
      have hbw := HB.out.trans ((HAL.out.trans (hb5.mono (by simp))).mono HB.out.size)
      have hA0 := (HB0.out.below HAL.out).below hb5
      have hA1 := (HB1.out.below HAL.out).below hb5
      have HBW := Lib.hid hbw; have HA0 := Lib.hid hA0; have HA1 := Lib.hid hA1
      clear hbw hA0 hb5 s0 s1 s2 s3 x0 x1 x2 x3
      obtain ⟨x0, x1, x2, x3⟩ := hA1
      obtain ⟨s0, s1, s2, s3⟩ := HA1.out.set0 (.bool m3)
      go_wp2
      refine ⟨⟨k + 1, by omega, by go_num, below_set2 HBW.out (by omega) _ _, HA0.out.far2 (by omega) _ _, m3, ao3, n3, c3, HA1.out.set2 _ _, ?_⟩, by simp [intOf]; omega⟩
      rw [sumLen_succ HLK.out, sumVal_succ HLK.out]
      exact h5.set2 HA1.out _ _
    · obtain ⟨x0, x1, x2, x3⟩ := hb1
      obtain ⟨y0, y1, y2, y3⟩ := hb0
      obtain ⟨s0, s1, s2, s3⟩ := (Box2.mk y0 y1 y2 y3).set0 (.bool m)
      go_wp2
      obtain rfl : k = n := by omega
      exact bodyPost_ret (v := .agg #[.bool m, .slice tp tn tc]) (by simp [results, Try.results27, go_sem, y0, y1]) rfl ⟨_, _, _, _, rfl, HR.out.set2 ⟨y0, y1, y2, y3⟩ _ _, below_set2 HB.out (Nat.le_refl _) _ _⟩
end Go.Proofs.Ytbfdianmbpfjmaa
