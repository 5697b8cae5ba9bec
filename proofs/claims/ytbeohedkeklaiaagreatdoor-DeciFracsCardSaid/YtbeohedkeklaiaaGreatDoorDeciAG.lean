/- DeciFracs, walked. -/
import Derived.Test.YtbeohedkeklaiaaGreatDoorPartq
namespace Go.Proofs.YtbeohedkeklaiaaGreatDoor
open Go.RowKit Go.MagM Go.MagS
theorem cutC_none {c : UInt8} {l : List UInt8} (h : ∀ x ∈ l, x ≠ c) : cutC c l = (l, [], false) := by
  induction l with
  | nil => rfl
  | cons a l ih =>
    rw [cutC, if_neg (h a (by simp)), ih (fun x hx => h x (by simp [hx]))]
theorem cutC_at {c : UInt8} {l b : List UInt8} (h : ∀ x ∈ l, x ≠ c) : cutC c (l ++ c :: b) = (l, b, true) := by
  induction l with
  | nil => simp [cutC]
  | cons a l ih =>
    rw [List.cons_append, cutC, if_neg (h a (by simp)), ih (fun x hx => h x (by simp [hx]))]
theorem wtext_no (X : Int) : ∀ x ∈ wtext X, x ≠ 47 := by
  intro x hx
  unfold wtext at hx
  rw [List.mem_append] at hx
  rcases hx with hx | hx
  · unfold sgnL at hx
    split at hx
    · simp at hx; subst hx; decide
    · simp at hx
  · have := List.all_eq_true.1 (dec_dig X.natAbs) x hx
    exact dig_ne this (by decide)
theorem wtext_nat (d : Nat) : wtext (d : Int) = Lib.decDigits d := by unfold wtext; rw [decide_eq_false (by omega)]; rfl
theorem ptext_cut (q : Rat) : rA (ptext q) = wtext q.num ∧ rB (ptext q) = Lib.decDigits q.den := by
  unfold ptext rA rB
  by_cases h : q.den = 1
  · rw [if_pos h, cutC_none (wtext_no _), h]
    refine ⟨rfl, ?_⟩
    rw [dec_small (by decide)]; rfl
  · rw [if_neg h, cutC_at (wtext_no _)]
    exact ⟨rfl, rfl⟩
theorem ptext_ok {q : Rat} (h : (ptext q).length ≤ 800) : readOk (ptext q) ∧ readQ (ptext q) = q := by
  obtain ⟨h1, h2⟩ := ptext_cut q
  have a := okW_wtext q.num
  have b := okW_wtext (q.den : Int)
  rw [wtext_nat] at b
  have hq : readQ (ptext q) = q := by
    unfold readQ
    rw [h1, h2, a.2, b.2]
    have := qv_eq q.num q.den
    rw [qv_self, den1_of q.den_nz] at this
    exact this.symm
  refine ⟨⟨h, by rw [h1]; exact a.1, by rw [h2]; exact b.1, ?_, by rw [hq]⟩, hq⟩
  rw [h2, b.2]
  have := q.den_nz
  omega
theorem rmag_one {w : World} {ao : Option Addr} {c L N : Nat} (h : RMag w (.slice ao 1 c) L N) (h0 : N ≠ 0) : ∃ b o, ao = some ⟨b, o, none⟩ ∧ WCell w b o N := by
  obtain ⟨ao', n', c', f, e, h1, h2, h3, h4, h5⟩ := h
  simp at e
  obtain ⟨rfl, rfl, rfl⟩ := e
  have hr : RMag w (.slice ao 1 c) 1 N := ⟨_, _, _, f, rfl, h1, Nat.le_refl _, h3, h4, h5⟩
  have hlt := hr.mag.lt
  rw [Nat.pow_one] at hlt
  obtain ⟨b, o, e, _, hc⟩ := hr.lone h0 hlt
  exact ⟨b, o, e, hc⟩
theorem fq_zero (w : World) : FQ w (.agg #[.bool false, .slice none 0 0, .slice none 0 0]) 0 0 := ⟨0, 0, ⟨false, none, 0, 0, none, 0, 0, rfl, (rnum_zero w).num, (RMag.nil w).mag⟩, rfl⟩
theorem rat_zero (q : Rat) : q + ((0 : Int) : Rat) = q := by rw [show ((0 : Int) : Rat) = 0 from rfl]; exact Rat.add_zero q
set_option maxRecDepth 100000 in
set_option maxHeartbeats 3000000 in
theorem fracs_lone (am : Bool) (ao : Option Addr) (an ac : Nat) (ap : Option Addr) (ak ad : Nat) (Xa : Int) (Da : Nat) (l : List UInt8) (w : World) (fa_0 : FD w (.agg #[.bool am, .slice ao an ac, .slice ap ak ad]) (max an ak) Xa Da) (ht0 : Tens w) (hden : (qv Xa Da).den = 1) :
    Calls Tryz.prog 6 #[.agg #[.bool am, .slice ao an ac, .slice ap ak ad], .string (str l)] w fun e w' => e = .returned (.bool true) ∧ Below w.heap.size w w' := by
  have hB_0 := Below.refl w.heap.size w
  have hz : (str l).size = l.length := str_size l
  obtain ⟨q, hq⟩ : ∃ q, (qv Xa Da) = q := ⟨_, rfl⟩
  rw [hq] at hden
  obtain ⟨n, hn⟩ : ∃ n, wtext q.num = n := ⟨_, rfl⟩
  obtain ⟨d, hd⟩ : ∃ d, Lib.decDigits q.den = d := ⟨_, rfl⟩
  obtain ⟨t, ht⟩ : ∃ t, ptext q = t := ⟨_, rfl⟩
  have hpt : t = n := by rw [← ht, ← hn]; unfold ptext; rw [if_pos hden]
  have hqz : (qv Xa Da) + ((0 : Int) : Rat) = q := by rw [rat_zero, hq]
  have cG := fun va w h => dDigits_any va 11 q.num w (by omega) h
  have cE := fun va w h => dDigits_any va 11 (q.den : Int) w (by omega) h
  rw [hn] at cG
  rw [wtext_nat, hd] at cE
  have cT := fun va L w hL hv h => Print_any va L q w hL hv h
  simp only [ht] at cT
  have cR := fun (h : t.length ≤ 800) w ht' => Read_yes t w ht' (ht ▸ (ptext_ok (q := q) (ht ▸ h)).1)
  have hrq := fun (h : t.length ≤ 800) => (show readQ t = q from ht ▸ (ptext_ok (q := q) (ht ▸ h)).2)
  have HQ := Lib.hid hq; have HQZ := Lib.hid hqz; have CG := Lib.hid cG; have CE := Lib.hid cE; have CT := Lib.hid cT; have CR := Lib.hid cR; have HRQ := Lib.hid hrq
  have HN := Lib.hid hn; have HD := Lib.hid hd; have HP := Lib.hid hpt; have HDEN := Lib.hid hden
  clear hq hqz cG cE cT cR hrq hn hd ht hpt hden
  obtain ⟨w1, hw1, pa_0, hb1, hs1⟩ := new_box w (w.heap.size) rfl [.bool am, .slice ao an ac, .slice ap ak ad] 46
  have hb1' : Below w.heap.size w w1 := hb1.mono (by omega)
  clear hb1
  have hB_1 := hB_0.trans (hb1'.mono hB_0.size)
  have fa_1 := fa_0.below hb1'
  clear hb1' hB_0 fa_0
  go_enter Tryz.func6, Tryz.ntmps6
  obtain ⟨pae0, pae1, pae2, pae3, pae4, pae5⟩ := pa_0.open3
  go_wp2_with fail
  refine (fit_ok _ (ht0.below hB_1)).mono ?_
  rintro e w2 ⟨rfl, hb2⟩
  clear pae0 pae1 pae2 pae3 pae4 pae5
  have hB_2 := hB_1.trans (hb2.mono hB_1.size)
  have fa_2 := fa_1.below hb2
  have pa_1 := pa_0.below hb2
  clear hb2 hB_1 fa_1 pa_0
  obtain ⟨pae0, pae1, pae2, pae3, pae4, pae5⟩ := pa_1.open3
  by_cases han : 8 < an
  · have hani : (8 : Int) < (an : Int) := by omega
    go_wp2
    go_ret
    exact ⟨rfl, hB_2⟩
  have hani : ¬ (8 : Int) < (an : Int) := by omega
  by_cases hak : 8 < ak
  · have haki : (8 : Int) < (ak : Int) := by omega
    go_wp2
    go_ret
    exact ⟨rfl, hB_2⟩
  have haki : ¬ (8 : Int) < (ak : Int) := by omega
  by_cases hll : 2000 < l.length
  · have hlli : (2000 : Int) < (l.length : Int) := by omega
    go_wp2
    go_ret
    exact ⟨rfl, hB_2⟩
  have hlli : ¬ (2000 : Int) < (l.length : Int) := by omega
  have fa_3 := fa_2.more (L' := 8) (by omega)
  clear fa_2
  go_wp2
  clear pae0 pae1 pae2 pae3 pae4 pae5
  have hWv_0 := Below.refl w2.heap.size w2
  have hsv : w.heap.size ≤ w2.heap.size := hB_2.size
  have hlvpa := pa_1.lt
  have hB_3 := hB_2.drew'
  have fa_4 := fa_3.drew
  have pa_2 := pa_1.drew
  have hWv_1 := hWv_0.drew'
  clear hB_2 fa_3 pa_1 hWv_0
  refine wp_region_noPanic ?_
  refine wp_region_held_drew (S := fun w' => w'.cell? ⟨w.heap.size, 0, none⟩ = some (.bool am) ∧ w'.cell? ⟨w.heap.size, 1, none⟩ = some (.slice ao an ac) ∧ w'.cell? ⟨w.heap.size, 2, none⟩ = some (.slice ap ak ad)) (by kernel_rfl) (⟨pa_2.c0, pa_2.c1, pa_2.c2⟩) (fun hHeld => ?_)
  refine reg_take 0 ?_ ?_ ?_ (by kernel_rfl) (by kernel_rfl) (by kernel_rfl) (fun _ _ _ h => h) ?_ ?_ (by assumption) ?_
  rotate_left 2
  · simp only [List.getElem?_toArray, List.getElem?_cons_zero]; exact rfl
  · rfl
  · intro w hSw; (try dsimp only at hSw); go_simp; try with_reducible rfl
  try simp only [Act.put]
  try simp only [List.setIfInBounds_toArray, List.set_cons_zero, List.set_cons_succ]
  refine reg_grab (fun WWv av hWW hAA => ?_)
  have HWv := Lib.hid hWW; have HAv := Lib.hid hAA; clear hWW hAA hHeld
  have stv_2t : ∀ (w' : World) (m1 : Bool) (o1 : Option Addr) (n1 : Nat) (c1 : Nat) (p1 : Option Addr) (k1 : Nat) (d1 : Nat) (m2 : Bool) (o2 : Option Addr) (n2 : Nat) (c2 : Nat) (p2 : Option Addr) (k2 : Nat) (d2 : Nat) (gpb : Nat), Below w.heap.size w w' → FD w' (.agg #[.bool am, .slice ao an ac, .slice ap ak ad]) 8 Xa Da → Box w' (w.heap.size) [.bool am, .slice ao an ac, .slice ap ak ad] → Below w2.heap.size w2 w' → RF w' (.agg #[.bool m1, .slice o1 n1 c1, .slice p1 k1 d1]) (1) (((0 : Int) : Rat)) → RF w' (.agg #[.bool m2, .slice o2 n2 c2, .slice p2 k2 d2]) (8 + 1 + 2) ((qv Xa Da) + ((0 : Int) : Rat)) → Box w' gpb [.bool false, .slice none 0 0, .slice none 0 0] → w2.heap.size ≤ gpb → WWv 1 #[true, true, true, true, false] (((av.put (some 30) (.agg #[.bool m1, .slice o1 n1 c1, .slice p1 k1 d1])).put (some 31) (.agg #[.bool m2, .slice o2 n2 c2, .slice p2 k2 d2])).put (some 5) (.pointer (some ⟨gpb, 0, none⟩))) w' := by
    intro w3 m1 o1 n1 c1 p1 k1 d1 m2 o2 n2 c2 p2 k2 d2 gpb hB_0 fa_0 pa_0 hWv_0 f1_0 f2_0 pb_0 hgpb
    rw [HWv.out, HAv.out]
    try simp only [Act.put]
    try simp only [List.setIfInBounds_toArray, List.set_cons_zero, List.set_cons_succ]
    clear hWv_0
    obtain ⟨sf1a, sf1b, sf1c, sf1d, sf1e, sf1f⟩ := pb_0.open3
    obtain ⟨sg1a, sg1b, sg1c, sg1d⟩ := Box.put3 pb_0 (.bool m2) (.slice o2 n2 c2)
    refine reg_call 4 ?_ (by kernel_rfl) ?_ (fun K hK => ?_)
    rotate_left 1
    · simp only [List.getElem?_toArray, List.getElem?_cons_succ, List.getElem?_cons_zero]; exact rfl
    go_simp
    have hB_1 := below_setAll hB_0 (g := gpb) (by omega) [.bool m2, .slice o2 n2 c2, .slice p2 k2 d2]
    have fa_1 := fa_0.setAll pb_0 (noWord3 _ _ _ _ _ _ _) [.bool m2, .slice o2 n2 c2, .slice p2 k2 d2] rfl
    have pa_1 := pa_0.farAll (g' := gpb) (by omega) [.bool m2, .slice o2 n2 c2, .slice p2 k2 d2]
    have f1_1 := f1_0.setAll pb_0 (noWord3 _ _ _ _ _ _ _) [.bool m2, .slice o2 n2 c2, .slice p2 k2 d2] rfl
    have f2_1 := f2_0.setAll pb_0 (noWord3 _ _ _ _ _ _ _) [.bool m2, .slice o2 n2 c2, .slice p2 k2 d2] rfl
    have pb_1 := pb_0.setAll [.bool m2, .slice o2 n2 c2, .slice p2 k2 d2] rfl
    simp only [setAll, Nat.zero_add, Nat.reduceAdd] at hB_1 fa_1 pa_1 f1_1 f2_1 pb_1
    clear sf1a sf1b sf1c sf1d sf1e sf1f sg1a sg1b sg1c sg1d
    clear hB_0 fa_0 pa_0 f1_0 f2_0 pb_0
    refine hK.out _ _ ⟨pa_1.c0, pa_1.c1, pa_1.c2⟩ (fun hHeld => ?_)
    clear hK K
    try simp only [Act.put]
    try simp only [List.setIfInBounds_toArray, List.set_cons_zero, List.set_cons_succ]
    generalize (World.setCell (World.setCell (World.setCell w3 ⟨gpb, 0, none⟩ (.bool m2)) ⟨gpb, 1, none⟩ (.slice o2 n2 c2)) ⟨gpb, 2, none⟩ (.slice p2 k2 d2)) = w4 at *
    refine wpAnyH_done (by kernel_rfl) ?_ _
    refine NoPanic.normal ?_
    clear f1_1
    have f2_2 := RF.of f2_1 HQZ.out
    clear f2_1
    have l1 := wtext_len f2_2.rnum
    rw [HN.out] at l1
    have l2 := dec_len_words f2_2.rden.mag.lt
    rw [HD.out] at l2
    have htl : t.length ≤ 800 := by rw [HP.out]; omega
    have hnt : n = t := HP.out.symm
    rw [hnt] at CG
    clear l1 l2
    obtain ⟨b1, q1, rfl, rfl, wx_0⟩ := (HDEN.out ▸ f2_2.rden).lone (by omega) (by unfold B; omega)
    obtain ⟨pbe0, pbe1, pbe2, pbe3, pbe4, pbe5⟩ := pb_1.open3
    have wxe := wx_0.c
    go_wp2_with fail
    refine (CG.out _ _ f2_2.rnum.num (ht0.below hB_1)).mono ?_
    rintro e w5 ⟨rfl, hb5⟩
    clear pbe0 pbe1 pbe2 pbe3 pbe4 pbe5 wxe
    have hB_2 := hB_1.trans (hb5.mono hB_1.size)
    have fa_2 := fa_1.below hb5
    have pa_2 := pa_1.below hb5
    have f2_3 := f2_2.below hb5
    have pb_2 := pb_1.below hb5
    have wx_1 := wx_0.below hb5
    clear hb5 hB_1 fa_1 pa_1 f2_2 pb_1 wx_0
    obtain ⟨pbe0, pbe1, pbe2, pbe3, pbe4, pbe5⟩ := pb_2.open3
    have wxe := wx_1.c
    clear wx_1
    clear f2_3
    go_wp2_with fail
    refine (CR.out htl _ (ht0.below hB_2)).mono ?_
    rintro e w6 ⟨m4, o4, n4, c4, p4, k4, d4, rfl, f4_0, hb6⟩
    clear pbe0 pbe1 pbe2 pbe3 pbe4 pbe5 wxe
    have hB_3 := hB_2.trans (hb6.mono hB_2.size)
    have fa_3 := fa_2.below hb6
    have pa_3 := pa_2.below hb6
    have pb_3 := pb_2.below hb6
    clear hb6 hB_2 fa_2 pa_2 pb_2
    obtain ⟨pae0, pae1, pae2, pae3, pae4, pae5⟩ := pa_3.open3
    rw [HRQ.out htl] at f4_0
    clear pae0 pae1 pae2 pae3 pae4 pae5
    have hl1pa := pa_3.lt
    have hl1pb := pb_3.lt
    have hl1B := hB_3.size
    obtain ⟨w7, hw7, pc_0, hb7, hs7⟩ := new_box w6 (w6.heap.size) rfl [.bool m4, .slice o4 n4 c4, .slice p4 k4 d4] 46
    have hb7' : Below w6.heap.size w6 w7 := hb7.mono (by omega)
    clear hb7
    have hB_4 := hB_3.trans (hb7'.mono hB_3.size)
    have fa_4 := fa_3.below hb7'
    have pa_4 := pa_3.below hb7'
    have pb_4 := pb_3.below hb7'
    have f4_1 := f4_0.below hb7'
    clear hb7' hB_3 fa_3 pa_3 pb_3 f4_0
    obtain ⟨pae0, pae1, pae2, pae3, pae4, pae5⟩ := pa_4.open3
    obtain ⟨pce0, pce1, pce2, pce3, pce4, pce5⟩ := pc_0.open3
    go_wp2_with fail
    try rw [hw7]
    refine (CT.out _ _ _ (by omega) (HQ.out ▸ fa_4.q) (ht0.below hB_4)).mono ?_
    rintro e w8 ⟨rfl, hb8⟩
    clear pae0 pae1 pae2 pae3 pae4 pae5 pce0 pce1 pce2 pce3 pce4 pce5
    have hB_5 := hB_4.trans (hb8.mono hB_4.size)
    have fa_5 := fa_4.below hb8
    have pa_5 := pa_4.below hb8
    have pb_5 := pb_4.below hb8
    have f4_2 := f4_1.below hb8
    have pc_1 := pc_0.below hb8
    clear hb8 hB_4 fa_4 pa_4 pb_4 f4_1 pc_0
    obtain ⟨pae0, pae1, pae2, pae3, pae4, pae5⟩ := pa_5.open3
    obtain ⟨pce0, pce1, pce2, pce3, pce4, pce5⟩ := pc_1.open3
    go_wp2_with fail
    refine (qSame_yes _ _ _ _ _ _ _ (by omega) (by omega) fa_5.q f4_2.q HQ.out).mono ?_
    rintro e w9 ⟨rfl, hb9⟩
    clear pae0 pae1 pae2 pae3 pae4 pae5 pce0 pce1 pce2 pce3 pce4 pce5
    have hB_6 := hB_5.trans (hb9.mono hB_5.size)
    have fa_6 := fa_5.below hb9
    have pa_6 := pa_5.below hb9
    have pb_6 := pb_5.below hb9
    have f4_3 := f4_2.below hb9
    have pc_2 := pc_1.below hb9
    clear hb9 hB_5 fa_5 pa_5 pb_5 f4_2 pc_1
    obtain ⟨pae0, pae1, pae2, pae3, pae4, pae5⟩ := pa_6.open3
    obtain ⟨pce0, pce1, pce2, pce3, pce4, pce5⟩ := pc_2.open3
    go_wp2_with fail
    refine (fRight_any _ _ _ _ (by omega) f4_3).mono ?_
    rintro e w10 ⟨rfl, hb10⟩
    clear pae0 pae1 pae2 pae3 pae4 pae5 pce0 pce1 pce2 pce3 pce4 pce5
    have hB_7 := hB_6.trans (hb10.mono hB_6.size)
    have fa_7 := fa_6.below hb10
    have pa_7 := pa_6.below hb10
    have pb_7 := pb_6.below hb10
    have f4_4 := f4_3.below hb10
    have pc_3 := pc_2.below hb10
    clear hb10 hB_6 fa_6 pa_6 pb_6 f4_3 pc_2
    obtain ⟨pae0, pae1, pae2, pae3, pae4, pae5⟩ := pa_7.open3
    obtain ⟨pce0, pce1, pce2, pce3, pce4, pce5⟩ := pc_3.open3
    clear f4_4
    clear pae0 pae1 pae2 pae3 pae4 pae5 pce0 pce1 pce2 pce3 pce4 pce5
    by_cases h800 : 800 < l.length
    · skip
      have h8i : (800 : Int) < (l.length : Int) := by omega
      have h8d : decide ((800 : Int) < (l.length : Int)) = true := decide_eq_true h8i
      go_wp2_with fail
      refine (Read_long l _ h800).mono ?_
      rintro e w11 ⟨rfl, hb11⟩
      have hB_8 := hB_7.trans (hb11.mono hB_7.size)
      have fa_8 := fa_7.below hb11
      have pa_8 := pa_7.below hb11
      have pb_8 := pb_7.below hb11
      have pc_4 := pc_3.below hb11
      clear hb11 hB_7 fa_7 pa_7 pb_7 pc_3
      have hl2pa := pa_8.lt
      have hl2pb := pb_8.lt
      have hl2pc := pc_4.lt
      have hl2B := hB_8.size
      obtain ⟨w12, hw12, pd_0, hb12, hs12⟩ := new_box w11 (w11.heap.size) rfl [.bool false, .slice none 0 0, .slice none 0 0] 46
      have hb12' : Below w11.heap.size w11 w12 := hb12.mono (by omega)
      clear hb12
      have hB_9 := hB_8.trans (hb12'.mono hB_8.size)
      have fa_9 := fa_8.below hb12'
      have pa_9 := pa_8.below hb12'
      have pb_9 := pb_8.below hb12'
      have pc_5 := pc_4.below hb12'
      clear hb12' hB_8 fa_8 pa_8 pb_8 pc_4
      obtain ⟨sf2a, sf2b, sf2c, sf2d, sf2e, sf2f⟩ := pd_0.open3
      obtain ⟨sg2a, sg2b, sg2c, sg2d⟩ := Box.put3 pd_0 (.bool false) (.slice none 0 0)
      have hB_10 := below_setAll hB_9 (g := w11.heap.size) (by omega) [.bool false, .slice none 0 0, .slice none 0 0]
      have fa_10 := fa_9.setAll pd_0 (noWord3 _ _ _ _ _ _ _) [.bool false, .slice none 0 0, .slice none 0 0] rfl
      have pa_10 := pa_9.farAll (g' := w11.heap.size) (by omega) [.bool false, .slice none 0 0, .slice none 0 0]
      have pb_10 := pb_9.farAll (g' := w11.heap.size) (by omega) [.bool false, .slice none 0 0, .slice none 0 0]
      have pc_6 := pc_5.farAll (g' := w11.heap.size) (by omega) [.bool false, .slice none 0 0, .slice none 0 0]
      have pd_1 := pd_0.setAll [.bool false, .slice none 0 0, .slice none 0 0] rfl
      simp only [setAll, Nat.zero_add, Nat.reduceAdd] at hB_10 fa_10 pa_10 pb_10 pc_6 pd_1
      obtain ⟨pde0, pde1, pde2, pde3, pde4, pde5⟩ := pd_1.open3
      go_wp2_with fail
      clear sf2a sf2b sf2c sf2d sf2e sf2f sg2a sg2b sg2c sg2d hB_9 fa_9 pa_9 pb_9 pc_5 pd_0
      generalize (World.setCell (World.setCell (World.setCell w12 ⟨w11.heap.size, 0, none⟩ (.bool false)) ⟨w11.heap.size, 1, none⟩ (.slice none 0 0)) ⟨w11.heap.size, 2, none⟩ (.slice none 0 0)) = w13 at *
      go_wp2_with fail
      try rw [hw12]
      refine (qSign _ 0 0 _ (by omega) (fq_zero _) 0 rfl).mono ?_
      rintro e w14 ⟨rfl, hb14⟩
      clear pde0 pde1 pde2 pde3 pde4 pde5
      have hB_11 := hB_10.trans (hb14.mono hB_10.size)
      have fa_11 := fa_10.below hb14
      have pa_11 := pa_10.below hb14
      have pb_11 := pb_10.below hb14
      have pc_7 := pc_6.below hb14
      have pd_2 := pd_1.below hb14
      clear hb14 hB_10 fa_10 pa_10 pb_10 pc_6 pd_1
      obtain ⟨pde0, pde1, pde2, pde3, pde4, pde5⟩ := pd_2.open3
      go_wp2
      go_ret
      exact ⟨rfl, hB_11⟩
    by_cases hr : readOk l
    · skip
      have hpr := hr.2.2.2.2
      go_wp2_with fail
      refine (Read_yes l _ (ht0.below hB_7) hr).mono ?_
      rintro e w11 ⟨m5, o5, n5, c5, p5, k5, d5, rfl, f5_0, hb11⟩
      have hB_8 := hB_7.trans (hb11.mono hB_7.size)
      have fa_8 := fa_7.below hb11
      have pa_8 := pa_7.below hb11
      have pb_8 := pb_7.below hb11
      have pc_4 := pc_3.below hb11
      clear hb11 hB_7 fa_7 pa_7 pb_7 pc_3
      have hl2pa := pa_8.lt
      have hl2pb := pb_8.lt
      have hl2pc := pc_4.lt
      have hl2B := hB_8.size
      obtain ⟨w12, hw12, pd_0, hb12, hs12⟩ := new_box w11 (w11.heap.size) rfl [.bool m5, .slice o5 n5 c5, .slice p5 k5 d5] 46
      have hb12' : Below w11.heap.size w11 w12 := hb12.mono (by omega)
      clear hb12
      have hB_9 := hB_8.trans (hb12'.mono hB_8.size)
      have fa_9 := fa_8.below hb12'
      have pa_9 := pa_8.below hb12'
      have pb_9 := pb_8.below hb12'
      have pc_5 := pc_4.below hb12'
      have f5_1 := f5_0.below hb12'
      clear hb12' hB_8 fa_8 pa_8 pb_8 pc_4 f5_0
      obtain ⟨pde0, pde1, pde2, pde3, pde4, pde5⟩ := pd_0.open3
      have cU := fun va w hv h => Print_any va 2000 (readQ l) w (by omega) hv h
      rw [hpr] at cU
      go_wp2_with fail
      try rw [hw12]
      refine (cU _ _ f5_1.q (ht0.below hB_9)).mono ?_
      rintro e w13 ⟨rfl, hb13⟩
      clear pde0 pde1 pde2 pde3 pde4 pde5
      have hB_10 := hB_9.trans (hb13.mono hB_9.size)
      have fa_10 := fa_9.below hb13
      have pa_10 := pa_9.below hb13
      have pb_10 := pb_9.below hb13
      have pc_6 := pc_5.below hb13
      have f5_2 := f5_1.below hb13
      have pd_1 := pd_0.below hb13
      clear hb13 hB_9 fa_9 pa_9 pb_9 pc_5 f5_1 pd_0
      obtain ⟨pde0, pde1, pde2, pde3, pde4, pde5⟩ := pd_1.open3
      go_wp2
      go_ret
      exact ⟨rfl, hB_10⟩
    · skip
      have h8i : ¬ (800 : Int) < (l.length : Int) := by omega
      have h8d : decide ((800 : Int) < (l.length : Int)) = false := decide_eq_false h8i
      go_wp2_with fail
      refine (Read_no l _ (ht0.below hB_7) (by omega) hr).mono ?_
      rintro e w11 ⟨rfl, hb11⟩
      have hB_8 := hB_7.trans (hb11.mono hB_7.size)
      have fa_8 := fa_7.below hb11
      have pa_8 := pa_7.below hb11
      have pb_8 := pb_7.below hb11
      have pc_4 := pc_3.below hb11
      clear hb11 hB_7 fa_7 pa_7 pb_7 pc_3
      have hl2pa := pa_8.lt
      have hl2pb := pb_8.lt
      have hl2pc := pc_4.lt
      have hl2B := hB_8.size
      obtain ⟨w12, hw12, pd_0, hb12, hs12⟩ := new_box w11 (w11.heap.size) rfl [.bool false, .slice none 0 0, .slice none 0 0] 46
      have hb12' : Below w11.heap.size w11 w12 := hb12.mono (by omega)
      clear hb12
      have hB_9 := hB_8.trans (hb12'.mono hB_8.size)
      have fa_9 := fa_8.below hb12'
      have pa_9 := pa_8.below hb12'
      have pb_9 := pb_8.below hb12'
      have pc_5 := pc_4.below hb12'
      clear hb12' hB_8 fa_8 pa_8 pb_8 pc_4
      obtain ⟨sf2a, sf2b, sf2c, sf2d, sf2e, sf2f⟩ := pd_0.open3
      obtain ⟨sg2a, sg2b, sg2c, sg2d⟩ := Box.put3 pd_0 (.bool false) (.slice none 0 0)
      have hB_10 := below_setAll hB_9 (g := w11.heap.size) (by omega) [.bool false, .slice none 0 0, .slice none 0 0]
      have fa_10 := fa_9.setAll pd_0 (noWord3 _ _ _ _ _ _ _) [.bool false, .slice none 0 0, .slice none 0 0] rfl
      have pa_10 := pa_9.farAll (g' := w11.heap.size) (by omega) [.bool false, .slice none 0 0, .slice none 0 0]
      have pb_10 := pb_9.farAll (g' := w11.heap.size) (by omega) [.bool false, .slice none 0 0, .slice none 0 0]
      have pc_6 := pc_5.farAll (g' := w11.heap.size) (by omega) [.bool false, .slice none 0 0, .slice none 0 0]
      have pd_1 := pd_0.setAll [.bool false, .slice none 0 0, .slice none 0 0] rfl
      simp only [setAll, Nat.zero_add, Nat.reduceAdd] at hB_10 fa_10 pa_10 pb_10 pc_6 pd_1
      obtain ⟨pde0, pde1, pde2, pde3, pde4, pde5⟩ := pd_1.open3
      go_wp2_with fail
      clear sf2a sf2b sf2c sf2d sf2e sf2f sg2a sg2b sg2c sg2d hB_9 fa_9 pa_9 pb_9 pc_5 pd_0
      generalize (World.setCell (World.setCell (World.setCell w12 ⟨w11.heap.size, 0, none⟩ (.bool false)) ⟨w11.heap.size, 1, none⟩ (.slice none 0 0)) ⟨w11.heap.size, 2, none⟩ (.slice none 0 0)) = w13 at *
      go_wp2_with fail
      try rw [hw12]
      refine (qSign _ 0 0 _ (by omega) (fq_zero _) 0 rfl).mono ?_
      rintro e w14 ⟨rfl, hb14⟩
      clear pde0 pde1 pde2 pde3 pde4 pde5
      have hB_11 := hB_10.trans (hb14.mono hB_10.size)
      have fa_11 := fa_10.below hb14
      have pa_11 := pa_10.below hb14
      have pb_11 := pb_10.below hb14
      have pc_7 := pc_6.below hb14
      have pd_2 := pd_1.below hb14
      clear hb14 hB_10 fa_10 pa_10 pb_10 pc_6 pd_1
      obtain ⟨pde0, pde1, pde2, pde3, pde4, pde5⟩ := pd_2.open3
      go_wp2
      go_ret
      exact ⟨rfl, hB_11⟩
  simp only [HAv.out, Act.put, List.setIfInBounds_toArray, List.set_cons_zero, List.set_cons_succ] at stv_2t
  have stv_2f : ∀ (w' : World) (m1 : Bool) (o1 : Option Addr) (n1 : Nat) (c1 : Nat) (p1 : Option Addr) (k1 : Nat) (d1 : Nat) (m2 : Bool) (o2 : Option Addr) (n2 : Nat) (c2 : Nat) (p2 : Option Addr) (k2 : Nat) (d2 : Nat), Below w.heap.size w w' → FD w' (.agg #[.bool am, .slice ao an ac, .slice ap ak ad]) 8 Xa Da → Box w' (w.heap.size) [.bool am, .slice ao an ac, .slice ap ak ad] → Below w2.heap.size w2 w' → RF w' (.agg #[.bool m1, .slice o1 n1 c1, .slice p1 k1 d1]) (1) (((0 : Int) : Rat)) → RF w' (.agg #[.bool m2, .slice o2 n2 c2, .slice p2 k2 d2]) (8 + 1 + 2) ((qv Xa Da) + ((0 : Int) : Rat)) → WWv 2 #[true, true, true, false, false] ((av.put (some 30) (.agg #[.bool m1, .slice o1 n1 c1, .slice p1 k1 d1])).put (some 31) (.agg #[.bool m2, .slice o2 n2 c2, .slice p2 k2 d2])) w' := by
    intro w11 m1 o1 n1 c1 p1 k1 d1 m2 o2 n2 c2 p2 k2 d2 hB_0 fa_0 pa_0 hWv_0 f1_0 f2_0
    rw [HWv.out, HAv.out]
    try simp only [Act.put]
    try simp only [List.setIfInBounds_toArray, List.set_cons_zero, List.set_cons_succ]
    refine reg_all1 3 ?_ (by kernel_rfl) ?_ (fun K hK => ?_)
    rotate_left 1
    · simp only [List.getElem?_toArray, List.getElem?_cons_succ, List.getElem?_cons_zero]; exact rfl
    · go_simp
      have hgn : w2.heap.size ≤ w11.heap.size := hWv_0.size
      obtain ⟨w12, hww12, pb_0, hb12, -⟩ := new_box w11 _ rfl [.bool false, .slice none 0 0, .slice none 0 0] 46
      rw [hww12]
      have hB_1 := hB_0.trans (hb12.mono hB_0.size)
      have fa_1 := fa_0.below hb12
      have pa_1 := pa_0.below hb12
      have hWv_1 := hWv_0.trans (hb12.mono hWv_0.size)
      have f1_1 := f1_0.below hb12
      have f2_1 := f2_0.below hb12
      clear hb12 hB_0 fa_0 pa_0 hWv_0 f1_0 f2_0
      refine hK.out _ _ ⟨pa_1.c0, pa_1.c1, pa_1.c2⟩ (fun hHeld => ?_)
      clear hK K
      try simp only [Act.put]
      try simp only [List.setIfInBounds_toArray, List.set_cons_zero, List.set_cons_succ]
      rw [← HWv.out]
      exact stv_2t _ m1 o1 n1 c1 p1 k1 d1 m2 o2 n2 c2 p2 k2 d2 w11.heap.size hB_1 fa_1 pa_1 hWv_1 f1_1 f2_1 pb_0 (by omega)
  try simp only [HAv.out, Act.put, List.setIfInBounds_toArray, List.set_cons_zero, List.set_cons_succ] at stv_2f
  have stv_1t : ∀ (w' : World) (m1 : Bool) (o1 : Option Addr) (n1 : Nat) (c1 : Nat) (p1 : Option Addr) (k1 : Nat) (d1 : Nat) (gpb : Nat), Below w.heap.size w w' → FD w' (.agg #[.bool am, .slice ao an ac, .slice ap ak ad]) 8 Xa Da → Box w' (w.heap.size) [.bool am, .slice ao an ac, .slice ap ak ad] → Below w2.heap.size w2 w' → RF w' (.agg #[.bool m1, .slice o1 n1 c1, .slice p1 k1 d1]) (1) (((0 : Int) : Rat)) → Box w' gpb [.bool false, .slice none 0 0, .slice none 0 0] → w2.heap.size ≤ gpb → WWv 2 #[true, true, false, true, false] ((av.put (some 30) (.agg #[.bool m1, .slice o1 n1 c1, .slice p1 k1 d1])).put (some 5) (.pointer (some ⟨gpb, 0, none⟩))) w' := by
    intro w13 m1 o1 n1 c1 p1 k1 d1 gpb hB_0 fa_0 pa_0 hWv_0 f1_0 pb_0 hgpb
    rw [HWv.out, HAv.out]
    try simp only [Act.put]
    try simp only [List.setIfInBounds_toArray, List.set_cons_zero, List.set_cons_succ]
    refine reg_all1 2 ?_ (by kernel_rfl) ?_ (fun K hK => ?_)
    rotate_left 1
    · simp only [List.getElem?_toArray, List.getElem?_cons_succ, List.getElem?_cons_zero]; exact rfl
    · go_simp
      refine (qAdd _ _ _ _ _ _ _ (by omega) (by omega) fa_0.q f1_0.q).mono ?_
      rintro e w14 ⟨m2, o2, n2, c2, p2, k2, d2, rfl, f2_0, hb14⟩
      have hB_1 := hB_0.trans (hb14.mono hB_0.size)
      have fa_1 := fa_0.below hb14
      have pa_1 := pa_0.below hb14
      have hWv_1 := hWv_0.trans (hb14.mono hWv_0.size)
      have f1_1 := f1_0.below hb14
      have pb_1 := pb_0.below hb14
      clear hb14 hB_0 fa_0 pa_0 hWv_0 f1_0 pb_0
      go_wp2_with fail
      refine hK.out _ _ ⟨pa_1.c0, pa_1.c1, pa_1.c2⟩ (fun hHeld => ?_)
      clear hK K
      try simp only [Act.put]
      try simp only [List.setIfInBounds_toArray, List.set_cons_zero, List.set_cons_succ]
      rw [← HWv.out]
      exact stv_2t _ m1 o1 n1 c1 p1 k1 d1 m2 o2 n2 c2 p2 k2 d2 gpb hB_1 fa_1 pa_1 hWv_1 f1_1 f2_0 pb_1 (by omega)
  try simp only [HAv.out, Act.put, List.setIfInBounds_toArray, List.set_cons_zero, List.set_cons_succ] at stv_1t
  have stv_1f : ∀ (w' : World) (m1 : Bool) (o1 : Option Addr) (n1 : Nat) (c1 : Nat) (p1 : Option Addr) (k1 : Nat) (d1 : Nat), Below w.heap.size w w' → FD w' (.agg #[.bool am, .slice ao an ac, .slice ap ak ad]) 8 Xa Da → Box w' (w.heap.size) [.bool am, .slice ao an ac, .slice ap ak ad] → Below w2.heap.size w2 w' → RF w' (.agg #[.bool m1, .slice o1 n1 c1, .slice p1 k1 d1]) (1) (((0 : Int) : Rat)) → WWv 3 #[true, true, false, false, false] (av.put (some 30) (.agg #[.bool m1, .slice o1 n1 c1, .slice p1 k1 d1])) w' := by
    intro w15 m1 o1 n1 c1 p1 k1 d1 hB_0 fa_0 pa_0 hWv_0 f1_0
    rw [HWv.out, HAv.out]
    try simp only [Act.put]
    try simp only [List.setIfInBounds_toArray, List.set_cons_zero, List.set_cons_succ]
    refine reg_all2 2 3 ?_ ?_ (by kernel_rfl) ?_ ?_ (fun K hK => ?_) (fun K hK => ?_)
    rotate_left 2
    · simp only [List.getElem?_toArray, List.getElem?_cons_succ, List.getElem?_cons_zero]; exact rfl
    · simp only [List.getElem?_toArray, List.getElem?_cons_succ, List.getElem?_cons_zero]; exact rfl
    · go_simp
      refine (qAdd _ _ _ _ _ _ _ (by omega) (by omega) fa_0.q f1_0.q).mono ?_
      rintro e w16 ⟨m2, o2, n2, c2, p2, k2, d2, rfl, f2_0, hb16⟩
      have hB_1 := hB_0.trans (hb16.mono hB_0.size)
      have fa_1 := fa_0.below hb16
      have pa_1 := pa_0.below hb16
      have hWv_1 := hWv_0.trans (hb16.mono hWv_0.size)
      have f1_1 := f1_0.below hb16
      clear hb16 hB_0 fa_0 pa_0 hWv_0 f1_0
      go_wp2_with fail
      refine hK.out _ _ ⟨pa_1.c0, pa_1.c1, pa_1.c2⟩ (fun hHeld => ?_)
      clear hK K
      try simp only [Act.put]
      try simp only [List.setIfInBounds_toArray, List.set_cons_zero, List.set_cons_succ]
      rw [← HWv.out]
      exact stv_2f _ m1 o1 n1 c1 p1 k1 d1 m2 o2 n2 c2 p2 k2 d2 hB_1 fa_1 pa_1 hWv_1 f1_1 f2_0
    · go_simp
      have hgn : w2.heap.size ≤ w15.heap.size := hWv_0.size
      obtain ⟨w17, hww17, pb_0, hb17, -⟩ := new_box w15 _ rfl [.bool false, .slice none 0 0, .slice none 0 0] 46
      rw [hww17]
      have hB_1 := hB_0.trans (hb17.mono hB_0.size)
      have fa_1 := fa_0.below hb17
      have pa_1 := pa_0.below hb17
      have hWv_1 := hWv_0.trans (hb17.mono hWv_0.size)
      have f1_1 := f1_0.below hb17
      clear hb17 hB_0 fa_0 pa_0 hWv_0 f1_0
      refine hK.out _ _ ⟨pa_1.c0, pa_1.c1, pa_1.c2⟩ (fun hHeld => ?_)
      clear hK K
      try simp only [Act.put]
      try simp only [List.setIfInBounds_toArray, List.set_cons_zero, List.set_cons_succ]
      rw [← HWv.out]
      exact stv_1t _ m1 o1 n1 c1 p1 k1 d1 w15.heap.size hB_1 fa_1 pa_1 hWv_1 f1_1 pb_0 (by omega)
  try simp only [HAv.out, Act.put, List.setIfInBounds_toArray, List.set_cons_zero, List.set_cons_succ] at stv_1f
  have stv_0t : ∀ (w' : World) (gpb : Nat), Below w.heap.size w w' → FD w' (.agg #[.bool am, .slice ao an ac, .slice ap ak ad]) 8 Xa Da → Box w' (w.heap.size) [.bool am, .slice ao an ac, .slice ap ak ad] → Below w2.heap.size w2 w' → Box w' gpb [.bool false, .slice none 0 0, .slice none 0 0] → w2.heap.size ≤ gpb → WWv 3 #[true, false, false, true, false] (av.put (some 5) (.pointer (some ⟨gpb, 0, none⟩))) w' := by
    intro w18 gpb hB_0 fa_0 pa_0 hWv_0 pb_0 hgpb
    rw [HWv.out, HAv.out]
    try simp only [Act.put]
    try simp only [List.setIfInBounds_toArray, List.set_cons_zero, List.set_cons_succ]
    refine reg_all1 1 ?_ (by kernel_rfl) ?_ (fun K hK => ?_)
    rotate_left 1
    · simp only [List.getElem?_toArray, List.getElem?_cons_succ, List.getElem?_cons_zero]; exact rfl
    · go_simp
      refine (fOf_any 0 (by omega) (by omega) _).mono ?_
      rintro e w19 ⟨m1, o1, n1, c1, p1, k1, d1, rfl, f1_0, hb19⟩
      have hB_1 := hB_0.trans (hb19.mono hB_0.size)
      have fa_1 := fa_0.below hb19
      have pa_1 := pa_0.below hb19
      have hWv_1 := hWv_0.trans (hb19.mono hWv_0.size)
      have pb_1 := pb_0.below hb19
      clear hb19 hB_0 fa_0 pa_0 hWv_0 pb_0
      go_wp2_with fail
      refine hK.out _ _ ⟨pa_1.c0, pa_1.c1, pa_1.c2⟩ (fun hHeld => ?_)
      clear hK K
      try simp only [Act.put]
      try simp only [List.setIfInBounds_toArray, List.set_cons_zero, List.set_cons_succ]
      rw [← HWv.out]
      exact stv_1t _ m1 o1 n1 c1 p1 k1 d1 gpb hB_1 fa_1 pa_1 hWv_1 f1_0 pb_1 (by omega)
  try simp only [HAv.out, Act.put, List.setIfInBounds_toArray, List.set_cons_zero, List.set_cons_succ] at stv_0t
  have stv_0f : ∀ (w' : World), Below w.heap.size w w' → FD w' (.agg #[.bool am, .slice ao an ac, .slice ap ak ad]) 8 Xa Da → Box w' (w.heap.size) [.bool am, .slice ao an ac, .slice ap ak ad] → Below w2.heap.size w2 w' → WWv 4 #[true, false, false, false, false] av w' := by
    intro w20 hB_0 fa_0 pa_0 hWv_0
    rw [HWv.out, HAv.out]
    try simp only [Act.put]
    try simp only [List.setIfInBounds_toArray, List.set_cons_zero, List.set_cons_succ]
    refine reg_all2 1 3 ?_ ?_ (by kernel_rfl) ?_ ?_ (fun K hK => ?_) (fun K hK => ?_)
    rotate_left 2
    · simp only [List.getElem?_toArray, List.getElem?_cons_succ, List.getElem?_cons_zero]; exact rfl
    · simp only [List.getElem?_toArray, List.getElem?_cons_succ, List.getElem?_cons_zero]; exact rfl
    · go_simp
      refine (fOf_any 0 (by omega) (by omega) _).mono ?_
      rintro e w21 ⟨m1, o1, n1, c1, p1, k1, d1, rfl, f1_0, hb21⟩
      have hB_1 := hB_0.trans (hb21.mono hB_0.size)
      have fa_1 := fa_0.below hb21
      have pa_1 := pa_0.below hb21
      have hWv_1 := hWv_0.trans (hb21.mono hWv_0.size)
      clear hb21 hB_0 fa_0 pa_0 hWv_0
      go_wp2_with fail
      refine hK.out _ _ ⟨pa_1.c0, pa_1.c1, pa_1.c2⟩ (fun hHeld => ?_)
      clear hK K
      try simp only [Act.put]
      try simp only [List.setIfInBounds_toArray, List.set_cons_zero, List.set_cons_succ]
      rw [← HWv.out]
      exact stv_1f _ m1 o1 n1 c1 p1 k1 d1 hB_1 fa_1 pa_1 hWv_1 f1_0
    · go_simp
      have hgn : w2.heap.size ≤ w20.heap.size := hWv_0.size
      obtain ⟨w22, hww22, pb_0, hb22, -⟩ := new_box w20 _ rfl [.bool false, .slice none 0 0, .slice none 0 0] 46
      rw [hww22]
      have hB_1 := hB_0.trans (hb22.mono hB_0.size)
      have fa_1 := fa_0.below hb22
      have pa_1 := pa_0.below hb22
      have hWv_1 := hWv_0.trans (hb22.mono hWv_0.size)
      clear hb22 hB_0 fa_0 pa_0 hWv_0
      refine hK.out _ _ ⟨pa_1.c0, pa_1.c1, pa_1.c2⟩ (fun hHeld => ?_)
      clear hK K
      try simp only [Act.put]
      try simp only [List.setIfInBounds_toArray, List.set_cons_zero, List.set_cons_succ]
      rw [← HWv.out]
      exact stv_0t _ w20.heap.size hB_1 fa_1 pa_1 hWv_1 pb_0 (by omega)
  exact stv_0f _ hB_3 fa_4 pa_2 hWv_1
set_option maxRecDepth 100000 in
set_option maxHeartbeats 3000000 in
theorem fracs_two (am : Bool) (ao : Option Addr) (an ac : Nat) (ap : Option Addr) (ak ad : Nat) (Xa : Int) (Da : Nat) (l : List UInt8) (w : World) (fa_0 : FD w (.agg #[.bool am, .slice ao an ac, .slice ap ak ad]) (max an ak) Xa Da) (ht0 : Tens w) (hden : (qv Xa Da).den ≠ 1) :
    Calls Tryz.prog 6 #[.agg #[.bool am, .slice ao an ac, .slice ap ak ad], .string (str l)] w fun e w' => e = .returned (.bool true) ∧ Below w.heap.size w w' := by
  have hB_0 := Below.refl w.heap.size w
  have hz : (str l).size = l.length := str_size l
  obtain ⟨q, hq⟩ : ∃ q, (qv Xa Da) = q := ⟨_, rfl⟩
  rw [hq] at hden
  obtain ⟨n, hn⟩ : ∃ n, wtext q.num = n := ⟨_, rfl⟩
  obtain ⟨d, hd⟩ : ∃ d, Lib.decDigits q.den = d := ⟨_, rfl⟩
  obtain ⟨t, ht⟩ : ∃ t, ptext q = t := ⟨_, rfl⟩
  have hpt : t = n ++ 47 :: d := by rw [← ht, ← hn, ← hd]; unfold ptext; rw [if_neg hden]
  have hqz : (qv Xa Da) + ((0 : Int) : Rat) = q := by rw [rat_zero, hq]
  have cG := fun va w h => dDigits_any va 11 q.num w (by omega) h
  have cE := fun va w h => dDigits_any va 11 (q.den : Int) w (by omega) h
  rw [hn] at cG
  rw [wtext_nat, hd] at cE
  have cT := fun va L w hL hv h => Print_any va L q w hL hv h
  simp only [ht] at cT
  have cR := fun (h : t.length ≤ 800) w ht' => Read_yes t w ht' (ht ▸ (ptext_ok (q := q) (ht ▸ h)).1)
  have hrq := fun (h : t.length ≤ 800) => (show readQ t = q from ht ▸ (ptext_ok (q := q) (ht ▸ h)).2)
  have HQ := Lib.hid hq; have HQZ := Lib.hid hqz; have CG := Lib.hid cG; have CE := Lib.hid cE; have CT := Lib.hid cT; have CR := Lib.hid cR; have HRQ := Lib.hid hrq
  have HN := Lib.hid hn; have HD := Lib.hid hd; have HP := Lib.hid hpt; have HDEN := Lib.hid hden
  clear hq hqz cG cE cT cR hrq hn hd ht hpt hden
  obtain ⟨w1, hw1, pa_0, hb1, hs1⟩ := new_box w (w.heap.size) rfl [.bool am, .slice ao an ac, .slice ap ak ad] 46
  have hb1' : Below w.heap.size w w1 := hb1.mono (by omega)
  clear hb1
  have hB_1 := hB_0.trans (hb1'.mono hB_0.size)
  have fa_1 := fa_0.below hb1'
  clear hb1' hB_0 fa_0
  go_enter Tryz.func6, Tryz.ntmps6
  obtain ⟨pae0, pae1, pae2, pae3, pae4, pae5⟩ := pa_0.open3
  go_wp2_with fail
  refine (fit_ok _ (ht0.below hB_1)).mono ?_
  rintro e w2 ⟨rfl, hb2⟩
  clear pae0 pae1 pae2 pae3 pae4 pae5
  have hB_2 := hB_1.trans (hb2.mono hB_1.size)
  have fa_2 := fa_1.below hb2
  have pa_1 := pa_0.below hb2
  clear hb2 hB_1 fa_1 pa_0
  obtain ⟨pae0, pae1, pae2, pae3, pae4, pae5⟩ := pa_1.open3
  by_cases han : 8 < an
  · have hani : (8 : Int) < (an : Int) := by omega
    go_wp2
    go_ret
    exact ⟨rfl, hB_2⟩
  have hani : ¬ (8 : Int) < (an : Int) := by omega
  by_cases hak : 8 < ak
  · have haki : (8 : Int) < (ak : Int) := by omega
    go_wp2
    go_ret
    exact ⟨rfl, hB_2⟩
  have haki : ¬ (8 : Int) < (ak : Int) := by omega
  by_cases hll : 2000 < l.length
  · have hlli : (2000 : Int) < (l.length : Int) := by omega
    go_wp2
    go_ret
    exact ⟨rfl, hB_2⟩
  have hlli : ¬ (2000 : Int) < (l.length : Int) := by omega
  have fa_3 := fa_2.more (L' := 8) (by omega)
  clear fa_2
  go_wp2
  clear pae0 pae1 pae2 pae3 pae4 pae5
  have hWv_0 := Below.refl w2.heap.size w2
  have hsv : w.heap.size ≤ w2.heap.size := hB_2.size
  have hlvpa := pa_1.lt
  have hB_3 := hB_2.drew'
  have fa_4 := fa_3.drew
  have pa_2 := pa_1.drew
  have hWv_1 := hWv_0.drew'
  clear hB_2 fa_3 pa_1 hWv_0
  refine wp_region_noPanic ?_
  refine wp_region_held_drew (S := fun w' => w'.cell? ⟨w.heap.size, 0, none⟩ = some (.bool am) ∧ w'.cell? ⟨w.heap.size, 1, none⟩ = some (.slice ao an ac) ∧ w'.cell? ⟨w.heap.size, 2, none⟩ = some (.slice ap ak ad)) (by kernel_rfl) (⟨pa_2.c0, pa_2.c1, pa_2.c2⟩) (fun hHeld => ?_)
  refine reg_take 0 ?_ ?_ ?_ (by kernel_rfl) (by kernel_rfl) (by kernel_rfl) (fun _ _ _ h => h) ?_ ?_ (by assumption) ?_
  rotate_left 2
  · simp only [List.getElem?_toArray, List.getElem?_cons_zero]; exact rfl
  · rfl
  · intro w hSw; (try dsimp only at hSw); go_simp; try with_reducible rfl
  try simp only [Act.put]
  try simp only [List.setIfInBounds_toArray, List.set_cons_zero, List.set_cons_succ]
  refine reg_grab (fun WWv av hWW hAA => ?_)
  have HWv := Lib.hid hWW; have HAv := Lib.hid hAA; clear hWW hAA hHeld
  have stv_2t : ∀ (w' : World) (m1 : Bool) (o1 : Option Addr) (n1 : Nat) (c1 : Nat) (p1 : Option Addr) (k1 : Nat) (d1 : Nat) (m2 : Bool) (o2 : Option Addr) (n2 : Nat) (c2 : Nat) (p2 : Option Addr) (k2 : Nat) (d2 : Nat) (gpb : Nat), Below w.heap.size w w' → FD w' (.agg #[.bool am, .slice ao an ac, .slice ap ak ad]) 8 Xa Da → Box w' (w.heap.size) [.bool am, .slice ao an ac, .slice ap ak ad] → Below w2.heap.size w2 w' → RF w' (.agg #[.bool m1, .slice o1 n1 c1, .slice p1 k1 d1]) (1) (((0 : Int) : Rat)) → RF w' (.agg #[.bool m2, .slice o2 n2 c2, .slice p2 k2 d2]) (8 + 1 + 2) ((qv Xa Da) + ((0 : Int) : Rat)) → Box w' gpb [.bool false, .slice none 0 0, .slice none 0 0] → w2.heap.size ≤ gpb → WWv 1 #[true, true, true, true, false] (((av.put (some 30) (.agg #[.bool m1, .slice o1 n1 c1, .slice p1 k1 d1])).put (some 31) (.agg #[.bool m2, .slice o2 n2 c2, .slice p2 k2 d2])).put (some 5) (.pointer (some ⟨gpb, 0, none⟩))) w' := by
    intro w3 m1 o1 n1 c1 p1 k1 d1 m2 o2 n2 c2 p2 k2 d2 gpb hB_0 fa_0 pa_0 hWv_0 f1_0 f2_0 pb_0 hgpb
    rw [HWv.out, HAv.out]
    try simp only [Act.put]
    try simp only [List.setIfInBounds_toArray, List.set_cons_zero, List.set_cons_succ]
    clear hWv_0
    obtain ⟨sf1a, sf1b, sf1c, sf1d, sf1e, sf1f⟩ := pb_0.open3
    obtain ⟨sg1a, sg1b, sg1c, sg1d⟩ := Box.put3 pb_0 (.bool m2) (.slice o2 n2 c2)
    refine reg_call 4 ?_ (by kernel_rfl) ?_ (fun K hK => ?_)
    rotate_left 1
    · simp only [List.getElem?_toArray, List.getElem?_cons_succ, List.getElem?_cons_zero]; exact rfl
    go_simp
    have hB_1 := below_setAll hB_0 (g := gpb) (by omega) [.bool m2, .slice o2 n2 c2, .slice p2 k2 d2]
    have fa_1 := fa_0.setAll pb_0 (noWord3 _ _ _ _ _ _ _) [.bool m2, .slice o2 n2 c2, .slice p2 k2 d2] rfl
    have pa_1 := pa_0.farAll (g' := gpb) (by omega) [.bool m2, .slice o2 n2 c2, .slice p2 k2 d2]
    have f1_1 := f1_0.setAll pb_0 (noWord3 _ _ _ _ _ _ _) [.bool m2, .slice o2 n2 c2, .slice p2 k2 d2] rfl
    have f2_1 := f2_0.setAll pb_0 (noWord3 _ _ _ _ _ _ _) [.bool m2, .slice o2 n2 c2, .slice p2 k2 d2] rfl
    have pb_1 := pb_0.setAll [.bool m2, .slice o2 n2 c2, .slice p2 k2 d2] rfl
    simp only [setAll, Nat.zero_add, Nat.reduceAdd] at hB_1 fa_1 pa_1 f1_1 f2_1 pb_1
    clear sf1a sf1b sf1c sf1d sf1e sf1f sg1a sg1b sg1c sg1d
    clear hB_0 fa_0 pa_0 f1_0 f2_0 pb_0
    refine hK.out _ _ ⟨pa_1.c0, pa_1.c1, pa_1.c2⟩ (fun hHeld => ?_)
    clear hK K
    try simp only [Act.put]
    try simp only [List.setIfInBounds_toArray, List.set_cons_zero, List.set_cons_succ]
    generalize (World.setCell (World.setCell (World.setCell w3 ⟨gpb, 0, none⟩ (.bool m2)) ⟨gpb, 1, none⟩ (.slice o2 n2 c2)) ⟨gpb, 2, none⟩ (.slice p2 k2 d2)) = w4 at *
    refine wpAnyH_done (by kernel_rfl) ?_ _
    refine NoPanic.normal ?_
    clear f1_1
    have f2_2 := RF.of f2_1 HQZ.out
    clear f2_1
    have l1 := wtext_len f2_2.rnum
    rw [HN.out] at l1
    have l2 := dec_len_words f2_2.rden.mag.lt
    rw [HD.out] at l2
    have htl : t.length ≤ 800 := by rw [HP.out]; rw [List.length_append, List.length_cons]; omega
    have z1 := str_size n
    have z2 := str_size d
    have z3 := cons_step 47 d
    have z4 : (str (47 :: d)).size = d.length + 1 := by rw [str_size]; rfl
    have z5 : str n ++ str (47 :: d) = str t := by rw [str_append, ← HP.out]
    have z6 : ¬ (9223372036854775807 < n.length + (d.length + 1)) := by omega
    have z7 : ¬ (9223372036854775807 < 1 + d.length) := by omega
    clear l1 l2
    by_cases hk : k2 = 1
    · subst hk
      obtain ⟨b1, q1, rfl, wx_0⟩ := rmag_one f2_2.rden q.den_nz
      have hw : ((q.den : Int) != 1) = true := by have := HDEN.out; simp only [bne_iff_ne]; omega
      obtain ⟨pbe0, pbe1, pbe2, pbe3, pbe4, pbe5⟩ := pb_1.open3
      have wxe := wx_0.c
      go_wp2_with fail
      refine (CG.out _ _ f2_2.rnum.num (ht0.below hB_1)).mono ?_
      rintro e w5 ⟨rfl, hb5⟩
      clear pbe0 pbe1 pbe2 pbe3 pbe4 pbe5 wxe
      have hB_2 := hB_1.trans (hb5.mono hB_1.size)
      have fa_2 := fa_1.below hb5
      have pa_2 := pa_1.below hb5
      have f2_3 := f2_2.below hb5
      have pb_2 := pb_1.below hb5
      have wx_1 := wx_0.below hb5
      clear hb5 hB_1 fa_1 pa_1 f2_2 pb_1 wx_0
      obtain ⟨pbe0, pbe1, pbe2, pbe3, pbe4, pbe5⟩ := pb_2.open3
      have wxe := wx_1.c
      go_wp2_with fail
      refine (Make_any false _ 11 q.den _ (by omega) f2_3.rden.mag).mono ?_
      rintro e w6 ⟨m3, o3, n3, c3, rfl, f3_0, hb6⟩
      clear pbe0 pbe1 pbe2 pbe3 pbe4 pbe5 wxe
      have hB_3 := hB_2.trans (hb6.mono hB_2.size)
      have fa_3 := fa_2.below hb6
      have pa_3 := pa_2.below hb6
      have f2_4 := f2_3.below hb6
      have pb_3 := pb_2.below hb6
      have wx_2 := wx_1.below hb6
      clear hb6 hB_2 fa_2 pa_2 f2_3 pb_2 wx_1
      obtain ⟨pbe0, pbe1, pbe2, pbe3, pbe4, pbe5⟩ := pb_3.open3
      have wxe := wx_2.c
      rw [show sgn false q.den = (q.den : Int) from rfl] at f3_0
      go_wp2_with fail
      refine (CE.out _ _ f3_0.num (ht0.below hB_3)).mono ?_
      rintro e w7 ⟨rfl, hb7⟩
      clear pbe0 pbe1 pbe2 pbe3 pbe4 pbe5 wxe
      have hB_4 := hB_3.trans (hb7.mono hB_3.size)
      have fa_4 := fa_3.below hb7
      have pa_4 := pa_3.below hb7
      have f2_5 := f2_4.below hb7
      have pb_4 := pb_3.below hb7
      have wx_3 := wx_2.below hb7
      have f3_1 := f3_0.below hb7
      clear hb7 hB_3 fa_3 pa_3 f2_4 pb_3 wx_2 f3_0
      obtain ⟨pae0, pae1, pae2, pae3, pae4, pae5⟩ := pa_4.open3
      clear f3_1
      clear wx_3
      clear f2_5
      go_wp2_with fail
      refine (CR.out htl _ (ht0.below hB_4)).mono ?_
      rintro e w8 ⟨m4, o4, n4, c4, p4, k4, d4, rfl, f4_0, hb8⟩
      clear pae0 pae1 pae2 pae3 pae4 pae5
      have hB_5 := hB_4.trans (hb8.mono hB_4.size)
      have fa_5 := fa_4.below hb8
      have pa_5 := pa_4.below hb8
      have pb_5 := pb_4.below hb8
      clear hb8 hB_4 fa_4 pa_4 pb_4
      obtain ⟨pae0, pae1, pae2, pae3, pae4, pae5⟩ := pa_5.open3
      rw [HRQ.out htl] at f4_0
      clear pae0 pae1 pae2 pae3 pae4 pae5
      have hl1pa := pa_5.lt
      have hl1pb := pb_5.lt
      have hl1B := hB_5.size
      obtain ⟨w9, hw9, pc_0, hb9, hs9⟩ := new_box w8 (w8.heap.size) rfl [.bool m4, .slice o4 n4 c4, .slice p4 k4 d4] 46
      have hb9' : Below w8.heap.size w8 w9 := hb9.mono (by omega)
      clear hb9
      have hB_6 := hB_5.trans (hb9'.mono hB_5.size)
      have fa_6 := fa_5.below hb9'
      have pa_6 := pa_5.below hb9'
      have pb_6 := pb_5.below hb9'
      have f4_1 := f4_0.below hb9'
      clear hb9' hB_5 fa_5 pa_5 pb_5 f4_0
      obtain ⟨pae0, pae1, pae2, pae3, pae4, pae5⟩ := pa_6.open3
      obtain ⟨pce0, pce1, pce2, pce3, pce4, pce5⟩ := pc_0.open3
      go_wp2_with fail
      try rw [hw9]
      refine (CT.out _ _ _ (by omega) (HQ.out ▸ fa_6.q) (ht0.below hB_6)).mono ?_
      rintro e w10 ⟨rfl, hb10⟩
      clear pae0 pae1 pae2 pae3 pae4 pae5 pce0 pce1 pce2 pce3 pce4 pce5
      have hB_7 := hB_6.trans (hb10.mono hB_6.size)
      have fa_7 := fa_6.below hb10
      have pa_7 := pa_6.below hb10
      have pb_7 := pb_6.below hb10
      have f4_2 := f4_1.below hb10
      have pc_1 := pc_0.below hb10
      clear hb10 hB_6 fa_6 pa_6 pb_6 f4_1 pc_0
      obtain ⟨pae0, pae1, pae2, pae3, pae4, pae5⟩ := pa_7.open3
      obtain ⟨pce0, pce1, pce2, pce3, pce4, pce5⟩ := pc_1.open3
      go_wp2_with fail
      refine (qSame_yes _ _ _ _ _ _ _ (by omega) (by omega) fa_7.q f4_2.q HQ.out).mono ?_
      rintro e w11 ⟨rfl, hb11⟩
      clear pae0 pae1 pae2 pae3 pae4 pae5 pce0 pce1 pce2 pce3 pce4 pce5
      have hB_8 := hB_7.trans (hb11.mono hB_7.size)
      have fa_8 := fa_7.below hb11
      have pa_8 := pa_7.below hb11
      have pb_8 := pb_7.below hb11
      have f4_3 := f4_2.below hb11
      have pc_2 := pc_1.below hb11
      clear hb11 hB_7 fa_7 pa_7 pb_7 f4_2 pc_1
      obtain ⟨pae0, pae1, pae2, pae3, pae4, pae5⟩ := pa_8.open3
      obtain ⟨pce0, pce1, pce2, pce3, pce4, pce5⟩ := pc_2.open3
      go_wp2_with fail
      refine (fRight_any _ _ _ _ (by omega) f4_3).mono ?_
      rintro e w12 ⟨rfl, hb12⟩
      clear pae0 pae1 pae2 pae3 pae4 pae5 pce0 pce1 pce2 pce3 pce4 pce5
      have hB_9 := hB_8.trans (hb12.mono hB_8.size)
      have fa_9 := fa_8.below hb12
      have pa_9 := pa_8.below hb12
      have pb_9 := pb_8.below hb12
      have f4_4 := f4_3.below hb12
      have pc_3 := pc_2.below hb12
      clear hb12 hB_8 fa_8 pa_8 pb_8 f4_3 pc_2
      obtain ⟨pae0, pae1, pae2, pae3, pae4, pae5⟩ := pa_9.open3
      obtain ⟨pce0, pce1, pce2, pce3, pce4, pce5⟩ := pc_3.open3
      clear f4_4
      clear pae0 pae1 pae2 pae3 pae4 pae5 pce0 pce1 pce2 pce3 pce4 pce5
      by_cases h800 : 800 < l.length
      · skip
        have h8i : (800 : Int) < (l.length : Int) := by omega
        have h8d : decide ((800 : Int) < (l.length : Int)) = true := decide_eq_true h8i
        go_wp2_with fail
        refine (Read_long l _ h800).mono ?_
        rintro e w13 ⟨rfl, hb13⟩
        have hB_10 := hB_9.trans (hb13.mono hB_9.size)
        have fa_10 := fa_9.below hb13
        have pa_10 := pa_9.below hb13
        have pb_10 := pb_9.below hb13
        have pc_4 := pc_3.below hb13
        clear hb13 hB_9 fa_9 pa_9 pb_9 pc_3
        have hl2pa := pa_10.lt
        have hl2pb := pb_10.lt
        have hl2pc := pc_4.lt
        have hl2B := hB_10.size
        obtain ⟨w14, hw14, pd_0, hb14, hs14⟩ := new_box w13 (w13.heap.size) rfl [.bool false, .slice none 0 0, .slice none 0 0] 46
        have hb14' : Below w13.heap.size w13 w14 := hb14.mono (by omega)
        clear hb14
        have hB_11 := hB_10.trans (hb14'.mono hB_10.size)
        have fa_11 := fa_10.below hb14'
        have pa_11 := pa_10.below hb14'
        have pb_11 := pb_10.below hb14'
        have pc_5 := pc_4.below hb14'
        clear hb14' hB_10 fa_10 pa_10 pb_10 pc_4
        obtain ⟨sf2a, sf2b, sf2c, sf2d, sf2e, sf2f⟩ := pd_0.open3
        obtain ⟨sg2a, sg2b, sg2c, sg2d⟩ := Box.put3 pd_0 (.bool false) (.slice none 0 0)
        have hB_12 := below_setAll hB_11 (g := w13.heap.size) (by omega) [.bool false, .slice none 0 0, .slice none 0 0]
        have fa_12 := fa_11.setAll pd_0 (noWord3 _ _ _ _ _ _ _) [.bool false, .slice none 0 0, .slice none 0 0] rfl
        have pa_12 := pa_11.farAll (g' := w13.heap.size) (by omega) [.bool false, .slice none 0 0, .slice none 0 0]
        have pb_12 := pb_11.farAll (g' := w13.heap.size) (by omega) [.bool false, .slice none 0 0, .slice none 0 0]
        have pc_6 := pc_5.farAll (g' := w13.heap.size) (by omega) [.bool false, .slice none 0 0, .slice none 0 0]
        have pd_1 := pd_0.setAll [.bool false, .slice none 0 0, .slice none 0 0] rfl
        simp only [setAll, Nat.zero_add, Nat.reduceAdd] at hB_12 fa_12 pa_12 pb_12 pc_6 pd_1
        obtain ⟨pde0, pde1, pde2, pde3, pde4, pde5⟩ := pd_1.open3
        go_wp2_with fail
        clear sf2a sf2b sf2c sf2d sf2e sf2f sg2a sg2b sg2c sg2d hB_11 fa_11 pa_11 pb_11 pc_5 pd_0
        generalize (World.setCell (World.setCell (World.setCell w14 ⟨w13.heap.size, 0, none⟩ (.bool false)) ⟨w13.heap.size, 1, none⟩ (.slice none 0 0)) ⟨w13.heap.size, 2, none⟩ (.slice none 0 0)) = w15 at *
        go_wp2_with fail
        try rw [hw14]
        refine (qSign _ 0 0 _ (by omega) (fq_zero _) 0 rfl).mono ?_
        rintro e w16 ⟨rfl, hb16⟩
        clear pde0 pde1 pde2 pde3 pde4 pde5
        have hB_13 := hB_12.trans (hb16.mono hB_12.size)
        have fa_13 := fa_12.below hb16
        have pa_13 := pa_12.below hb16
        have pb_13 := pb_12.below hb16
        have pc_7 := pc_6.below hb16
        have pd_2 := pd_1.below hb16
        clear hb16 hB_12 fa_12 pa_12 pb_12 pc_6 pd_1
        obtain ⟨pde0, pde1, pde2, pde3, pde4, pde5⟩ := pd_2.open3
        go_wp2
        go_ret
        exact ⟨rfl, hB_13⟩
      by_cases hr : readOk l
      · skip
        have hpr := hr.2.2.2.2
        go_wp2_with fail
        refine (Read_yes l _ (ht0.below hB_9) hr).mono ?_
        rintro e w13 ⟨m5, o5, n5, c5, p5, k5, d5, rfl, f5_0, hb13⟩
        have hB_10 := hB_9.trans (hb13.mono hB_9.size)
        have fa_10 := fa_9.below hb13
        have pa_10 := pa_9.below hb13
        have pb_10 := pb_9.below hb13
        have pc_4 := pc_3.below hb13
        clear hb13 hB_9 fa_9 pa_9 pb_9 pc_3
        have hl2pa := pa_10.lt
        have hl2pb := pb_10.lt
        have hl2pc := pc_4.lt
        have hl2B := hB_10.size
        obtain ⟨w14, hw14, pd_0, hb14, hs14⟩ := new_box w13 (w13.heap.size) rfl [.bool m5, .slice o5 n5 c5, .slice p5 k5 d5] 46
        have hb14' : Below w13.heap.size w13 w14 := hb14.mono (by omega)
        clear hb14
        have hB_11 := hB_10.trans (hb14'.mono hB_10.size)
        have fa_11 := fa_10.below hb14'
        have pa_11 := pa_10.below hb14'
        have pb_11 := pb_10.below hb14'
        have pc_5 := pc_4.below hb14'
        have f5_1 := f5_0.below hb14'
        clear hb14' hB_10 fa_10 pa_10 pb_10 pc_4 f5_0
        obtain ⟨pde0, pde1, pde2, pde3, pde4, pde5⟩ := pd_0.open3
        have cU := fun va w hv h => Print_any va 2000 (readQ l) w (by omega) hv h
        rw [hpr] at cU
        go_wp2_with fail
        try rw [hw14]
        refine (cU _ _ f5_1.q (ht0.below hB_11)).mono ?_
        rintro e w15 ⟨rfl, hb15⟩
        clear pde0 pde1 pde2 pde3 pde4 pde5
        have hB_12 := hB_11.trans (hb15.mono hB_11.size)
        have fa_12 := fa_11.below hb15
        have pa_12 := pa_11.below hb15
        have pb_12 := pb_11.below hb15
        have pc_6 := pc_5.below hb15
        have f5_2 := f5_1.below hb15
        have pd_1 := pd_0.below hb15
        clear hb15 hB_11 fa_11 pa_11 pb_11 pc_5 f5_1 pd_0
        obtain ⟨pde0, pde1, pde2, pde3, pde4, pde5⟩ := pd_1.open3
        go_wp2
        go_ret
        exact ⟨rfl, hB_12⟩
      · skip
        have h8i : ¬ (800 : Int) < (l.length : Int) := by omega
        have h8d : decide ((800 : Int) < (l.length : Int)) = false := decide_eq_false h8i
        go_wp2_with fail
        refine (Read_no l _ (ht0.below hB_9) (by omega) hr).mono ?_
        rintro e w13 ⟨rfl, hb13⟩
        have hB_10 := hB_9.trans (hb13.mono hB_9.size)
        have fa_10 := fa_9.below hb13
        have pa_10 := pa_9.below hb13
        have pb_10 := pb_9.below hb13
        have pc_4 := pc_3.below hb13
        clear hb13 hB_9 fa_9 pa_9 pb_9 pc_3
        have hl2pa := pa_10.lt
        have hl2pb := pb_10.lt
        have hl2pc := pc_4.lt
        have hl2B := hB_10.size
        obtain ⟨w14, hw14, pd_0, hb14, hs14⟩ := new_box w13 (w13.heap.size) rfl [.bool false, .slice none 0 0, .slice none 0 0] 46
        have hb14' : Below w13.heap.size w13 w14 := hb14.mono (by omega)
        clear hb14
        have hB_11 := hB_10.trans (hb14'.mono hB_10.size)
        have fa_11 := fa_10.below hb14'
        have pa_11 := pa_10.below hb14'
        have pb_11 := pb_10.below hb14'
        have pc_5 := pc_4.below hb14'
        clear hb14' hB_10 fa_10 pa_10 pb_10 pc_4
        obtain ⟨sf2a, sf2b, sf2c, sf2d, sf2e, sf2f⟩ := pd_0.open3
        obtain ⟨sg2a, sg2b, sg2c, sg2d⟩ := Box.put3 pd_0 (.bool false) (.slice none 0 0)
        have hB_12 := below_setAll hB_11 (g := w13.heap.size) (by omega) [.bool false, .slice none 0 0, .slice none 0 0]
        have fa_12 := fa_11.setAll pd_0 (noWord3 _ _ _ _ _ _ _) [.bool false, .slice none 0 0, .slice none 0 0] rfl
        have pa_12 := pa_11.farAll (g' := w13.heap.size) (by omega) [.bool false, .slice none 0 0, .slice none 0 0]
        have pb_12 := pb_11.farAll (g' := w13.heap.size) (by omega) [.bool false, .slice none 0 0, .slice none 0 0]
        have pc_6 := pc_5.farAll (g' := w13.heap.size) (by omega) [.bool false, .slice none 0 0, .slice none 0 0]
        have pd_1 := pd_0.setAll [.bool false, .slice none 0 0, .slice none 0 0] rfl
        simp only [setAll, Nat.zero_add, Nat.reduceAdd] at hB_12 fa_12 pa_12 pb_12 pc_6 pd_1
        obtain ⟨pde0, pde1, pde2, pde3, pde4, pde5⟩ := pd_1.open3
        go_wp2_with fail
        clear sf2a sf2b sf2c sf2d sf2e sf2f sg2a sg2b sg2c sg2d hB_11 fa_11 pa_11 pb_11 pc_5 pd_0
        generalize (World.setCell (World.setCell (World.setCell w14 ⟨w13.heap.size, 0, none⟩ (.bool false)) ⟨w13.heap.size, 1, none⟩ (.slice none 0 0)) ⟨w13.heap.size, 2, none⟩ (.slice none 0 0)) = w15 at *
        go_wp2_with fail
        try rw [hw14]
        refine (qSign _ 0 0 _ (by omega) (fq_zero _) 0 rfl).mono ?_
        rintro e w16 ⟨rfl, hb16⟩
        clear pde0 pde1 pde2 pde3 pde4 pde5
        have hB_13 := hB_12.trans (hb16.mono hB_12.size)
        have fa_13 := fa_12.below hb16
        have pa_13 := pa_12.below hb16
        have pb_13 := pb_12.below hb16
        have pc_7 := pc_6.below hb16
        have pd_2 := pd_1.below hb16
        clear hb16 hB_12 fa_12 pa_12 pb_12 pc_6 pd_1
        obtain ⟨pde0, pde1, pde2, pde3, pde4, pde5⟩ := pd_2.open3
        go_wp2
        go_ret
        exact ⟨rfl, hB_13⟩
    · skip
      have hkb : ((k2 : Int) != 1) = true := by simp only [bne_iff_ne]; omega
      obtain ⟨pbe0, pbe1, pbe2, pbe3, pbe4, pbe5⟩ := pb_1.open3
      go_wp2_with fail
      refine (CG.out _ _ f2_2.rnum.num (ht0.below hB_1)).mono ?_
      rintro e w5 ⟨rfl, hb5⟩
      clear pbe0 pbe1 pbe2 pbe3 pbe4 pbe5
      have hB_2 := hB_1.trans (hb5.mono hB_1.size)
      have fa_2 := fa_1.below hb5
      have pa_2 := pa_1.below hb5
      have f2_3 := f2_2.below hb5
      have pb_2 := pb_1.below hb5
      clear hb5 hB_1 fa_1 pa_1 f2_2 pb_1
      obtain ⟨pbe0, pbe1, pbe2, pbe3, pbe4, pbe5⟩ := pb_2.open3
      go_wp2_with fail
      refine (Make_any false _ 11 q.den _ (by omega) f2_3.rden.mag).mono ?_
      rintro e w6 ⟨m3, o3, n3, c3, rfl, f3_0, hb6⟩
      clear pbe0 pbe1 pbe2 pbe3 pbe4 pbe5
      have hB_3 := hB_2.trans (hb6.mono hB_2.size)
      have fa_3 := fa_2.below hb6
      have pa_3 := pa_2.below hb6
      have f2_4 := f2_3.below hb6
      have pb_3 := pb_2.below hb6
      clear hb6 hB_2 fa_2 pa_2 f2_3 pb_2
      obtain ⟨pbe0, pbe1, pbe2, pbe3, pbe4, pbe5⟩ := pb_3.open3
      rw [show sgn false q.den = (q.den : Int) from rfl] at f3_0
      go_wp2_with fail
      refine (CE.out _ _ f3_0.num (ht0.below hB_3)).mono ?_
      rintro e w7 ⟨rfl, hb7⟩
      clear pbe0 pbe1 pbe2 pbe3 pbe4 pbe5
      have hB_4 := hB_3.trans (hb7.mono hB_3.size)
      have fa_4 := fa_3.below hb7
      have pa_4 := pa_3.below hb7
      have f2_5 := f2_4.below hb7
      have pb_4 := pb_3.below hb7
      have f3_1 := f3_0.below hb7
      clear hb7 hB_3 fa_3 pa_3 f2_4 pb_3 f3_0
      obtain ⟨pae0, pae1, pae2, pae3, pae4, pae5⟩ := pa_4.open3
      clear f3_1
      clear f2_5
      go_wp2_with fail
      refine (CR.out htl _ (ht0.below hB_4)).mono ?_
      rintro e w8 ⟨m4, o4, n4, c4, p4, k4, d4, rfl, f4_0, hb8⟩
      clear pae0 pae1 pae2 pae3 pae4 pae5
      have hB_5 := hB_4.trans (hb8.mono hB_4.size)
      have fa_5 := fa_4.below hb8
      have pa_5 := pa_4.below hb8
      have pb_5 := pb_4.below hb8
      clear hb8 hB_4 fa_4 pa_4 pb_4
      obtain ⟨pae0, pae1, pae2, pae3, pae4, pae5⟩ := pa_5.open3
      rw [HRQ.out htl] at f4_0
      clear pae0 pae1 pae2 pae3 pae4 pae5
      have hl1pa := pa_5.lt
      have hl1pb := pb_5.lt
      have hl1B := hB_5.size
      obtain ⟨w9, hw9, pc_0, hb9, hs9⟩ := new_box w8 (w8.heap.size) rfl [.bool m4, .slice o4 n4 c4, .slice p4 k4 d4] 46
      have hb9' : Below w8.heap.size w8 w9 := hb9.mono (by omega)
      clear hb9
      have hB_6 := hB_5.trans (hb9'.mono hB_5.size)
      have fa_6 := fa_5.below hb9'
      have pa_6 := pa_5.below hb9'
      have pb_6 := pb_5.below hb9'
      have f4_1 := f4_0.below hb9'
      clear hb9' hB_5 fa_5 pa_5 pb_5 f4_0
      obtain ⟨pae0, pae1, pae2, pae3, pae4, pae5⟩ := pa_6.open3
      obtain ⟨pce0, pce1, pce2, pce3, pce4, pce5⟩ := pc_0.open3
      go_wp2_with fail
      try rw [hw9]
      refine (CT.out _ _ _ (by omega) (HQ.out ▸ fa_6.q) (ht0.below hB_6)).mono ?_
      rintro e w10 ⟨rfl, hb10⟩
      clear pae0 pae1 pae2 pae3 pae4 pae5 pce0 pce1 pce2 pce3 pce4 pce5
      have hB_7 := hB_6.trans (hb10.mono hB_6.size)
      have fa_7 := fa_6.below hb10
      have pa_7 := pa_6.below hb10
      have pb_7 := pb_6.below hb10
      have f4_2 := f4_1.below hb10
      have pc_1 := pc_0.below hb10
      clear hb10 hB_6 fa_6 pa_6 pb_6 f4_1 pc_0
      obtain ⟨pae0, pae1, pae2, pae3, pae4, pae5⟩ := pa_7.open3
      obtain ⟨pce0, pce1, pce2, pce3, pce4, pce5⟩ := pc_1.open3
      go_wp2_with fail
      refine (qSame_yes _ _ _ _ _ _ _ (by omega) (by omega) fa_7.q f4_2.q HQ.out).mono ?_
      rintro e w11 ⟨rfl, hb11⟩
      clear pae0 pae1 pae2 pae3 pae4 pae5 pce0 pce1 pce2 pce3 pce4 pce5
      have hB_8 := hB_7.trans (hb11.mono hB_7.size)
      have fa_8 := fa_7.below hb11
      have pa_8 := pa_7.below hb11
      have pb_8 := pb_7.below hb11
      have f4_3 := f4_2.below hb11
      have pc_2 := pc_1.below hb11
      clear hb11 hB_7 fa_7 pa_7 pb_7 f4_2 pc_1
      obtain ⟨pae0, pae1, pae2, pae3, pae4, pae5⟩ := pa_8.open3
      obtain ⟨pce0, pce1, pce2, pce3, pce4, pce5⟩ := pc_2.open3
      go_wp2_with fail
      refine (fRight_any _ _ _ _ (by omega) f4_3).mono ?_
      rintro e w12 ⟨rfl, hb12⟩
      clear pae0 pae1 pae2 pae3 pae4 pae5 pce0 pce1 pce2 pce3 pce4 pce5
      have hB_9 := hB_8.trans (hb12.mono hB_8.size)
      have fa_9 := fa_8.below hb12
      have pa_9 := pa_8.below hb12
      have pb_9 := pb_8.below hb12
      have f4_4 := f4_3.below hb12
      have pc_3 := pc_2.below hb12
      clear hb12 hB_8 fa_8 pa_8 pb_8 f4_3 pc_2
      obtain ⟨pae0, pae1, pae2, pae3, pae4, pae5⟩ := pa_9.open3
      obtain ⟨pce0, pce1, pce2, pce3, pce4, pce5⟩ := pc_3.open3
      clear f4_4
      clear pae0 pae1 pae2 pae3 pae4 pae5 pce0 pce1 pce2 pce3 pce4 pce5
      by_cases h800 : 800 < l.length
      · skip
        have h8i : (800 : Int) < (l.length : Int) := by omega
        have h8d : decide ((800 : Int) < (l.length : Int)) = true := decide_eq_true h8i
        go_wp2_with fail
        refine (Read_long l _ h800).mono ?_
        rintro e w13 ⟨rfl, hb13⟩
        have hB_10 := hB_9.trans (hb13.mono hB_9.size)
        have fa_10 := fa_9.below hb13
        have pa_10 := pa_9.below hb13
        have pb_10 := pb_9.below hb13
        have pc_4 := pc_3.below hb13
        clear hb13 hB_9 fa_9 pa_9 pb_9 pc_3
        have hl2pa := pa_10.lt
        have hl2pb := pb_10.lt
        have hl2pc := pc_4.lt
        have hl2B := hB_10.size
        obtain ⟨w14, hw14, pd_0, hb14, hs14⟩ := new_box w13 (w13.heap.size) rfl [.bool false, .slice none 0 0, .slice none 0 0] 46
        have hb14' : Below w13.heap.size w13 w14 := hb14.mono (by omega)
        clear hb14
        have hB_11 := hB_10.trans (hb14'.mono hB_10.size)
        have fa_11 := fa_10.below hb14'
        have pa_11 := pa_10.below hb14'
        have pb_11 := pb_10.below hb14'
        have pc_5 := pc_4.below hb14'
        clear hb14' hB_10 fa_10 pa_10 pb_10 pc_4
        obtain ⟨sf2a, sf2b, sf2c, sf2d, sf2e, sf2f⟩ := pd_0.open3
        obtain ⟨sg2a, sg2b, sg2c, sg2d⟩ := Box.put3 pd_0 (.bool false) (.slice none 0 0)
        have hB_12 := below_setAll hB_11 (g := w13.heap.size) (by omega) [.bool false, .slice none 0 0, .slice none 0 0]
        have fa_12 := fa_11.setAll pd_0 (noWord3 _ _ _ _ _ _ _) [.bool false, .slice none 0 0, .slice none 0 0] rfl
        have pa_12 := pa_11.farAll (g' := w13.heap.size) (by omega) [.bool false, .slice none 0 0, .slice none 0 0]
        have pb_12 := pb_11.farAll (g' := w13.heap.size) (by omega) [.bool false, .slice none 0 0, .slice none 0 0]
        have pc_6 := pc_5.farAll (g' := w13.heap.size) (by omega) [.bool false, .slice none 0 0, .slice none 0 0]
        have pd_1 := pd_0.setAll [.bool false, .slice none 0 0, .slice none 0 0] rfl
        simp only [setAll, Nat.zero_add, Nat.reduceAdd] at hB_12 fa_12 pa_12 pb_12 pc_6 pd_1
        obtain ⟨pde0, pde1, pde2, pde3, pde4, pde5⟩ := pd_1.open3
        go_wp2_with fail
        clear sf2a sf2b sf2c sf2d sf2e sf2f sg2a sg2b sg2c sg2d hB_11 fa_11 pa_11 pb_11 pc_5 pd_0
        generalize (World.setCell (World.setCell (World.setCell w14 ⟨w13.heap.size, 0, none⟩ (.bool false)) ⟨w13.heap.size, 1, none⟩ (.slice none 0 0)) ⟨w13.heap.size, 2, none⟩ (.slice none 0 0)) = w15 at *
        go_wp2_with fail
        try rw [hw14]
        refine (qSign _ 0 0 _ (by omega) (fq_zero _) 0 rfl).mono ?_
        rintro e w16 ⟨rfl, hb16⟩
        clear pde0 pde1 pde2 pde3 pde4 pde5
        have hB_13 := hB_12.trans (hb16.mono hB_12.size)
        have fa_13 := fa_12.below hb16
        have pa_13 := pa_12.below hb16
        have pb_13 := pb_12.below hb16
        have pc_7 := pc_6.below hb16
        have pd_2 := pd_1.below hb16
        clear hb16 hB_12 fa_12 pa_12 pb_12 pc_6 pd_1
        obtain ⟨pde0, pde1, pde2, pde3, pde4, pde5⟩ := pd_2.open3
        go_wp2
        go_ret
        exact ⟨rfl, hB_13⟩
      by_cases hr : readOk l
      · skip
        have hpr := hr.2.2.2.2
        go_wp2_with fail
        refine (Read_yes l _ (ht0.below hB_9) hr).mono ?_
        rintro e w13 ⟨m5, o5, n5, c5, p5, k5, d5, rfl, f5_0, hb13⟩
        have hB_10 := hB_9.trans (hb13.mono hB_9.size)
        have fa_10 := fa_9.below hb13
        have pa_10 := pa_9.below hb13
        have pb_10 := pb_9.below hb13
        have pc_4 := pc_3.below hb13
        clear hb13 hB_9 fa_9 pa_9 pb_9 pc_3
        have hl2pa := pa_10.lt
        have hl2pb := pb_10.lt
        have hl2pc := pc_4.lt
        have hl2B := hB_10.size
        obtain ⟨w14, hw14, pd_0, hb14, hs14⟩ := new_box w13 (w13.heap.size) rfl [.bool m5, .slice o5 n5 c5, .slice p5 k5 d5] 46
        have hb14' : Below w13.heap.size w13 w14 := hb14.mono (by omega)
        clear hb14
        have hB_11 := hB_10.trans (hb14'.mono hB_10.size)
        have fa_11 := fa_10.below hb14'
        have pa_11 := pa_10.below hb14'
        have pb_11 := pb_10.below hb14'
        have pc_5 := pc_4.below hb14'
        have f5_1 := f5_0.below hb14'
        clear hb14' hB_10 fa_10 pa_10 pb_10 pc_4 f5_0
        obtain ⟨pde0, pde1, pde2, pde3, pde4, pde5⟩ := pd_0.open3
        have cU := fun va w hv h => Print_any va 2000 (readQ l) w (by omega) hv h
        rw [hpr] at cU
        go_wp2_with fail
        try rw [hw14]
        refine (cU _ _ f5_1.q (ht0.below hB_11)).mono ?_
        rintro e w15 ⟨rfl, hb15⟩
        clear pde0 pde1 pde2 pde3 pde4 pde5
        have hB_12 := hB_11.trans (hb15.mono hB_11.size)
        have fa_12 := fa_11.below hb15
        have pa_12 := pa_11.below hb15
        have pb_12 := pb_11.below hb15
        have pc_6 := pc_5.below hb15
        have f5_2 := f5_1.below hb15
        have pd_1 := pd_0.below hb15
        clear hb15 hB_11 fa_11 pa_11 pb_11 pc_5 f5_1 pd_0
        obtain ⟨pde0, pde1, pde2, pde3, pde4, pde5⟩ := pd_1.open3
        go_wp2
        go_ret
        exact ⟨rfl, hB_12⟩
      · skip
        have h8i : ¬ (800 : Int) < (l.length : Int) := by omega
        have h8d : decide ((800 : Int) < (l.length : Int)) = false := decide_eq_false h8i
        go_wp2_with fail
        refine (Read_no l _ (ht0.below hB_9) (by omega) hr).mono ?_
        rintro e w13 ⟨rfl, hb13⟩
        have hB_10 := hB_9.trans (hb13.mono hB_9.size)
        have fa_10 := fa_9.below hb13
        have pa_10 := pa_9.below hb13
        have pb_10 := pb_9.below hb13
        have pc_4 := pc_3.below hb13
        clear hb13 hB_9 fa_9 pa_9 pb_9 pc_3
        have hl2pa := pa_10.lt
        have hl2pb := pb_10.lt
        have hl2pc := pc_4.lt
        have hl2B := hB_10.size
        obtain ⟨w14, hw14, pd_0, hb14, hs14⟩ := new_box w13 (w13.heap.size) rfl [.bool false, .slice none 0 0, .slice none 0 0] 46
        have hb14' : Below w13.heap.size w13 w14 := hb14.mono (by omega)
        clear hb14
        have hB_11 := hB_10.trans (hb14'.mono hB_10.size)
        have fa_11 := fa_10.below hb14'
        have pa_11 := pa_10.below hb14'
        have pb_11 := pb_10.below hb14'
        have pc_5 := pc_4.below hb14'
        clear hb14' hB_10 fa_10 pa_10 pb_10 pc_4
        obtain ⟨sf2a, sf2b, sf2c, sf2d, sf2e, sf2f⟩ := pd_0.open3
        obtain ⟨sg2a, sg2b, sg2c, sg2d⟩ := Box.put3 pd_0 (.bool false) (.slice none 0 0)
        have hB_12 := below_setAll hB_11 (g := w13.heap.size) (by omega) [.bool false, .slice none 0 0, .slice none 0 0]
        have fa_12 := fa_11.setAll pd_0 (noWord3 _ _ _ _ _ _ _) [.bool false, .slice none 0 0, .slice none 0 0] rfl
        have pa_12 := pa_11.farAll (g' := w13.heap.size) (by omega) [.bool false, .slice none 0 0, .slice none 0 0]
        have pb_12 := pb_11.farAll (g' := w13.heap.size) (by omega) [.bool false, .slice none 0 0, .slice none 0 0]
        have pc_6 := pc_5.farAll (g' := w13.heap.size) (by omega) [.bool false, .slice none 0 0, .slice none 0 0]
        have pd_1 := pd_0.setAll [.bool false, .slice none 0 0, .slice none 0 0] rfl
        simp only [setAll, Nat.zero_add, Nat.reduceAdd] at hB_12 fa_12 pa_12 pb_12 pc_6 pd_1
        obtain ⟨pde0, pde1, pde2, pde3, pde4, pde5⟩ := pd_1.open3
        go_wp2_with fail
        clear sf2a sf2b sf2c sf2d sf2e sf2f sg2a sg2b sg2c sg2d hB_11 fa_11 pa_11 pb_11 pc_5 pd_0
        generalize (World.setCell (World.setCell (World.setCell w14 ⟨w13.heap.size, 0, none⟩ (.bool false)) ⟨w13.heap.size, 1, none⟩ (.slice none 0 0)) ⟨w13.heap.size, 2, none⟩ (.slice none 0 0)) = w15 at *
        go_wp2_with fail
        try rw [hw14]
        refine (qSign _ 0 0 _ (by omega) (fq_zero _) 0 rfl).mono ?_
        rintro e w16 ⟨rfl, hb16⟩
        clear pde0 pde1 pde2 pde3 pde4 pde5
        have hB_13 := hB_12.trans (hb16.mono hB_12.size)
        have fa_13 := fa_12.below hb16
        have pa_13 := pa_12.below hb16
        have pb_13 := pb_12.below hb16
        have pc_7 := pc_6.below hb16
        have pd_2 := pd_1.below hb16
        clear hb16 hB_12 fa_12 pa_12 pb_12 pc_6 pd_1
        obtain ⟨pde0, pde1, pde2, pde3, pde4, pde5⟩ := pd_2.open3
        go_wp2
        go_ret
        exact ⟨rfl, hB_13⟩
  simp only [HAv.out, Act.put, List.setIfInBounds_toArray, List.set_cons_zero, List.set_cons_succ] at stv_2t
  have stv_2f : ∀ (w' : World) (m1 : Bool) (o1 : Option Addr) (n1 : Nat) (c1 : Nat) (p1 : Option Addr) (k1 : Nat) (d1 : Nat) (m2 : Bool) (o2 : Option Addr) (n2 : Nat) (c2 : Nat) (p2 : Option Addr) (k2 : Nat) (d2 : Nat), Below w.heap.size w w' → FD w' (.agg #[.bool am, .slice ao an ac, .slice ap ak ad]) 8 Xa Da → Box w' (w.heap.size) [.bool am, .slice ao an ac, .slice ap ak ad] → Below w2.heap.size w2 w' → RF w' (.agg #[.bool m1, .slice o1 n1 c1, .slice p1 k1 d1]) (1) (((0 : Int) : Rat)) → RF w' (.agg #[.bool m2, .slice o2 n2 c2, .slice p2 k2 d2]) (8 + 1 + 2) ((qv Xa Da) + ((0 : Int) : Rat)) → WWv 2 #[true, true, true, false, false] ((av.put (some 30) (.agg #[.bool m1, .slice o1 n1 c1, .slice p1 k1 d1])).put (some 31) (.agg #[.bool m2, .slice o2 n2 c2, .slice p2 k2 d2])) w' := by
    intro w5 m1 o1 n1 c1 p1 k1 d1 m2 o2 n2 c2 p2 k2 d2 hB_0 fa_0 pa_0 hWv_0 f1_0 f2_0
    rw [HWv.out, HAv.out]
    try simp only [Act.put]
    try simp only [List.setIfInBounds_toArray, List.set_cons_zero, List.set_cons_succ]
    refine reg_all1 3 ?_ (by kernel_rfl) ?_ (fun K hK => ?_)
    rotate_left 1
    · simp only [List.getElem?_toArray, List.getElem?_cons_succ, List.getElem?_cons_zero]; exact rfl
    · go_simp
      have hgn : w2.heap.size ≤ w5.heap.size := hWv_0.size
      obtain ⟨w6, hww6, pb_0, hb6, -⟩ := new_box w5 _ rfl [.bool false, .slice none 0 0, .slice none 0 0] 46
      rw [hww6]
      have hB_1 := hB_0.trans (hb6.mono hB_0.size)
      have fa_1 := fa_0.below hb6
      have pa_1 := pa_0.below hb6
      have hWv_1 := hWv_0.trans (hb6.mono hWv_0.size)
      have f1_1 := f1_0.below hb6
      have f2_1 := f2_0.below hb6
      clear hb6 hB_0 fa_0 pa_0 hWv_0 f1_0 f2_0
      refine hK.out _ _ ⟨pa_1.c0, pa_1.c1, pa_1.c2⟩ (fun hHeld => ?_)
      clear hK K
      try simp only [Act.put]
      try simp only [List.setIfInBounds_toArray, List.set_cons_zero, List.set_cons_succ]
      rw [← HWv.out]
      exact stv_2t _ m1 o1 n1 c1 p1 k1 d1 m2 o2 n2 c2 p2 k2 d2 w5.heap.size hB_1 fa_1 pa_1 hWv_1 f1_1 f2_1 pb_0 (by omega)
  try simp only [HAv.out, Act.put, List.setIfInBounds_toArray, List.set_cons_zero, List.set_cons_succ] at stv_2f
  have stv_1t : ∀ (w' : World) (m1 : Bool) (o1 : Option Addr) (n1 : Nat) (c1 : Nat) (p1 : Option Addr) (k1 : Nat) (d1 : Nat) (gpb : Nat), Below w.heap.size w w' → FD w' (.agg #[.bool am, .slice ao an ac, .slice ap ak ad]) 8 Xa Da → Box w' (w.heap.size) [.bool am, .slice ao an ac, .slice ap ak ad] → Below w2.heap.size w2 w' → RF w' (.agg #[.bool m1, .slice o1 n1 c1, .slice p1 k1 d1]) (1) (((0 : Int) : Rat)) → Box w' gpb [.bool false, .slice none 0 0, .slice none 0 0] → w2.heap.size ≤ gpb → WWv 2 #[true, true, false, true, false] ((av.put (some 30) (.agg #[.bool m1, .slice o1 n1 c1, .slice p1 k1 d1])).put (some 5) (.pointer (some ⟨gpb, 0, none⟩))) w' := by
    intro w7 m1 o1 n1 c1 p1 k1 d1 gpb hB_0 fa_0 pa_0 hWv_0 f1_0 pb_0 hgpb
    rw [HWv.out, HAv.out]
    try simp only [Act.put]
    try simp only [List.setIfInBounds_toArray, List.set_cons_zero, List.set_cons_succ]
    refine reg_all1 2 ?_ (by kernel_rfl) ?_ (fun K hK => ?_)
    rotate_left 1
    · simp only [List.getElem?_toArray, List.getElem?_cons_succ, List.getElem?_cons_zero]; exact rfl
    · go_simp
      refine (qAdd _ _ _ _ _ _ _ (by omega) (by omega) fa_0.q f1_0.q).mono ?_
      rintro e w8 ⟨m2, o2, n2, c2, p2, k2, d2, rfl, f2_0, hb8⟩
      have hB_1 := hB_0.trans (hb8.mono hB_0.size)
      have fa_1 := fa_0.below hb8
      have pa_1 := pa_0.below hb8
      have hWv_1 := hWv_0.trans (hb8.mono hWv_0.size)
      have f1_1 := f1_0.below hb8
      have pb_1 := pb_0.below hb8
      clear hb8 hB_0 fa_0 pa_0 hWv_0 f1_0 pb_0
      go_wp2_with fail
      refine hK.out _ _ ⟨pa_1.c0, pa_1.c1, pa_1.c2⟩ (fun hHeld => ?_)
      clear hK K
      try simp only [Act.put]
      try simp only [List.setIfInBounds_toArray, List.set_cons_zero, List.set_cons_succ]
      rw [← HWv.out]
      exact stv_2t _ m1 o1 n1 c1 p1 k1 d1 m2 o2 n2 c2 p2 k2 d2 gpb hB_1 fa_1 pa_1 hWv_1 f1_1 f2_0 pb_1 (by omega)
  try simp only [HAv.out, Act.put, List.setIfInBounds_toArray, List.set_cons_zero, List.set_cons_succ] at stv_1t
  have stv_1f : ∀ (w' : World) (m1 : Bool) (o1 : Option Addr) (n1 : Nat) (c1 : Nat) (p1 : Option Addr) (k1 : Nat) (d1 : Nat), Below w.heap.size w w' → FD w' (.agg #[.bool am, .slice ao an ac, .slice ap ak ad]) 8 Xa Da → Box w' (w.heap.size) [.bool am, .slice ao an ac, .slice ap ak ad] → Below w2.heap.size w2 w' → RF w' (.agg #[.bool m1, .slice o1 n1 c1, .slice p1 k1 d1]) (1) (((0 : Int) : Rat)) → WWv 3 #[true, true, false, false, false] (av.put (some 30) (.agg #[.bool m1, .slice o1 n1 c1, .slice p1 k1 d1])) w' := by
    intro w9 m1 o1 n1 c1 p1 k1 d1 hB_0 fa_0 pa_0 hWv_0 f1_0
    rw [HWv.out, HAv.out]
    try simp only [Act.put]
    try simp only [List.setIfInBounds_toArray, List.set_cons_zero, List.set_cons_succ]
    refine reg_all2 2 3 ?_ ?_ (by kernel_rfl) ?_ ?_ (fun K hK => ?_) (fun K hK => ?_)
    rotate_left 2
    · simp only [List.getElem?_toArray, List.getElem?_cons_succ, List.getElem?_cons_zero]; exact rfl
    · simp only [List.getElem?_toArray, List.getElem?_cons_succ, List.getElem?_cons_zero]; exact rfl
    · go_simp
      refine (qAdd _ _ _ _ _ _ _ (by omega) (by omega) fa_0.q f1_0.q).mono ?_
      rintro e w10 ⟨m2, o2, n2, c2, p2, k2, d2, rfl, f2_0, hb10⟩
      have hB_1 := hB_0.trans (hb10.mono hB_0.size)
      have fa_1 := fa_0.below hb10
      have pa_1 := pa_0.below hb10
      have hWv_1 := hWv_0.trans (hb10.mono hWv_0.size)
      have f1_1 := f1_0.below hb10
      clear hb10 hB_0 fa_0 pa_0 hWv_0 f1_0
      go_wp2_with fail
      refine hK.out _ _ ⟨pa_1.c0, pa_1.c1, pa_1.c2⟩ (fun hHeld => ?_)
      clear hK K
      try simp only [Act.put]
      try simp only [List.setIfInBounds_toArray, List.set_cons_zero, List.set_cons_succ]
      rw [← HWv.out]
      exact stv_2f _ m1 o1 n1 c1 p1 k1 d1 m2 o2 n2 c2 p2 k2 d2 hB_1 fa_1 pa_1 hWv_1 f1_1 f2_0
    · go_simp
      have hgn : w2.heap.size ≤ w9.heap.size := hWv_0.size
      obtain ⟨w11, hww11, pb_0, hb11, -⟩ := new_box w9 _ rfl [.bool false, .slice none 0 0, .slice none 0 0] 46
      rw [hww11]
      have hB_1 := hB_0.trans (hb11.mono hB_0.size)
      have fa_1 := fa_0.below hb11
      have pa_1 := pa_0.below hb11
      have hWv_1 := hWv_0.trans (hb11.mono hWv_0.size)
      have f1_1 := f1_0.below hb11
      clear hb11 hB_0 fa_0 pa_0 hWv_0 f1_0
      refine hK.out _ _ ⟨pa_1.c0, pa_1.c1, pa_1.c2⟩ (fun hHeld => ?_)
      clear hK K
      try simp only [Act.put]
      try simp only [List.setIfInBounds_toArray, List.set_cons_zero, List.set_cons_succ]
      rw [← HWv.out]
      exact stv_1t _ m1 o1 n1 c1 p1 k1 d1 w9.heap.size hB_1 fa_1 pa_1 hWv_1 f1_1 pb_0 (by omega)
  try simp only [HAv.out, Act.put, List.setIfInBounds_toArray, List.set_cons_zero, List.set_cons_succ] at stv_1f
  have stv_0t : ∀ (w' : World) (gpb : Nat), Below w.heap.size w w' → FD w' (.agg #[.bool am, .slice ao an ac, .slice ap ak ad]) 8 Xa Da → Box w' (w.heap.size) [.bool am, .slice ao an ac, .slice ap ak ad] → Below w2.heap.size w2 w' → Box w' gpb [.bool false, .slice none 0 0, .slice none 0 0] → w2.heap.size ≤ gpb → WWv 3 #[true, false, false, true, false] (av.put (some 5) (.pointer (some ⟨gpb, 0, none⟩))) w' := by
    intro w12 gpb hB_0 fa_0 pa_0 hWv_0 pb_0 hgpb
    rw [HWv.out, HAv.out]
    try simp only [Act.put]
    try simp only [List.setIfInBounds_toArray, List.set_cons_zero, List.set_cons_succ]
    refine reg_all1 1 ?_ (by kernel_rfl) ?_ (fun K hK => ?_)
    rotate_left 1
    · simp only [List.getElem?_toArray, List.getElem?_cons_succ, List.getElem?_cons_zero]; exact rfl
    · go_simp
      refine (fOf_any 0 (by omega) (by omega) _).mono ?_
      rintro e w13 ⟨m1, o1, n1, c1, p1, k1, d1, rfl, f1_0, hb13⟩
      have hB_1 := hB_0.trans (hb13.mono hB_0.size)
      have fa_1 := fa_0.below hb13
      have pa_1 := pa_0.below hb13
      have hWv_1 := hWv_0.trans (hb13.mono hWv_0.size)
      have pb_1 := pb_0.below hb13
      clear hb13 hB_0 fa_0 pa_0 hWv_0 pb_0
      go_wp2_with fail
      refine hK.out _ _ ⟨pa_1.c0, pa_1.c1, pa_1.c2⟩ (fun hHeld => ?_)
      clear hK K
      try simp only [Act.put]
      try simp only [List.setIfInBounds_toArray, List.set_cons_zero, List.set_cons_succ]
      rw [← HWv.out]
      exact stv_1t _ m1 o1 n1 c1 p1 k1 d1 gpb hB_1 fa_1 pa_1 hWv_1 f1_0 pb_1 (by omega)
  try simp only [HAv.out, Act.put, List.setIfInBounds_toArray, List.set_cons_zero, List.set_cons_succ] at stv_0t
  have stv_0f : ∀ (w' : World), Below w.heap.size w w' → FD w' (.agg #[.bool am, .slice ao an ac, .slice ap ak ad]) 8 Xa Da → Box w' (w.heap.size) [.bool am, .slice ao an ac, .slice ap ak ad] → Below w2.heap.size w2 w' → WWv 4 #[true, false, false, false, false] av w' := by
    intro w14 hB_0 fa_0 pa_0 hWv_0
    rw [HWv.out, HAv.out]
    try simp only [Act.put]
    try simp only [List.setIfInBounds_toArray, List.set_cons_zero, List.set_cons_succ]
    refine reg_all2 1 3 ?_ ?_ (by kernel_rfl) ?_ ?_ (fun K hK => ?_) (fun K hK => ?_)
    rotate_left 2
    · simp only [List.getElem?_toArray, List.getElem?_cons_succ, List.getElem?_cons_zero]; exact rfl
    · simp only [List.getElem?_toArray, List.getElem?_cons_succ, List.getElem?_cons_zero]; exact rfl
    · go_simp
      refine (fOf_any 0 (by omega) (by omega) _).mono ?_
      rintro e w15 ⟨m1, o1, n1, c1, p1, k1, d1, rfl, f1_0, hb15⟩
      have hB_1 := hB_0.trans (hb15.mono hB_0.size)
      have fa_1 := fa_0.below hb15
      have pa_1 := pa_0.below hb15
      have hWv_1 := hWv_0.trans (hb15.mono hWv_0.size)
      clear hb15 hB_0 fa_0 pa_0 hWv_0
      go_wp2_with fail
      refine hK.out _ _ ⟨pa_1.c0, pa_1.c1, pa_1.c2⟩ (fun hHeld => ?_)
      clear hK K
      try simp only [Act.put]
      try simp only [List.setIfInBounds_toArray, List.set_cons_zero, List.set_cons_succ]
      rw [← HWv.out]
      exact stv_1f _ m1 o1 n1 c1 p1 k1 d1 hB_1 fa_1 pa_1 hWv_1 f1_0
    · go_simp
      have hgn : w2.heap.size ≤ w14.heap.size := hWv_0.size
      obtain ⟨w16, hww16, pb_0, hb16, -⟩ := new_box w14 _ rfl [.bool false, .slice none 0 0, .slice none 0 0] 46
      rw [hww16]
      have hB_1 := hB_0.trans (hb16.mono hB_0.size)
      have fa_1 := fa_0.below hb16
      have pa_1 := pa_0.below hb16
      have hWv_1 := hWv_0.trans (hb16.mono hWv_0.size)
      clear hb16 hB_0 fa_0 pa_0 hWv_0
      refine hK.out _ _ ⟨pa_1.c0, pa_1.c1, pa_1.c2⟩ (fun hHeld => ?_)
      clear hK K
      try simp only [Act.put]
      try simp only [List.setIfInBounds_toArray, List.set_cons_zero, List.set_cons_succ]
      rw [← HWv.out]
      exact stv_0t _ w14.heap.size hB_1 fa_1 pa_1 hWv_1 pb_0 (by omega)
  exact stv_0f _ hB_3 fa_4 pa_2 hWv_1
theorem DeciFracs_walk (am : Bool) (ao : Option Addr) (an ac : Nat) (ap : Option Addr) (ak ad : Nat) (Xa : Int) (Da : Nat) (bs : ByteArray) (w : World) (fa_0 : FD w (.agg #[.bool am, .slice ao an ac, .slice ap ak ad]) (max an ak) Xa Da) (ht0 : Tens w) : Calls Tryz.prog 6 #[.agg #[.bool am, .slice ao an ac, .slice ap ak ad], .string bs] w fun e w' => e = .returned (.bool true) ∧ Below w.heap.size w w' := by
  rw [str_of bs]
  by_cases hden : (qv Xa Da).den = 1
  · exact fracs_lone am ao an ac ap ak ad Xa Da _ w fa_0 ht0 hden
  · exact fracs_two am ao an ac ap ak ad Xa Da _ w fa_0 ht0 hden
end Go.Proofs.YtbeohedkeklaiaaGreatDoor
