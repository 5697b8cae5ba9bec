/- Sums, differences, products in place: addTo, takeFrom, addTimes, takeTimes; Add, Sub, Mul. -/
import Derived.Test.YtbfdianmbpfjmaaBits
namespace Go.Proofs.Ytbfdianmbpfjmaa
open Go.RowKit Go.MagM
def add64Entry : Array Value → Sem Value := fun args => do
  let (x, y, c) ← Extern.MathBitsCarry.three "Add64" args
  pure (Extern.MathBitsCarry.pair ((x + y + c) % Extern.MathBitsCarry.m64) ((x + y + c) / Extern.MathBitsCarry.m64))
theorem add64_run (x y c : Nat) (hc : c ≤ 1) (w : World) :
    (callFunc 58 #[.int .u64 x, .int .u64 y, .int .u64 c]).run Try.prog w =
      .ok (.value (.tuple #[.int .u64 (((x + y + c) % B : Nat) : Int), .int .u64 (((x + y + c) / B : Nat) : Int)])) w := by
  rw [run_callFunc_extern Try.func58 (by kernel_rfl) (by kernel_rfl) (by kernel_rfl) (e := add64Entry) (by kernel_rfl)]
  have : c = 0 ∨ c = 1 := by omega
  rcases this with rfl | rfl <;> rfl
def sub64Entry : Array Value → Sem Value := fun args => do
  let (x, y, b) ← Extern.MathBitsCarry.three "Sub64" args
  pure (Extern.MathBitsCarry.pair ((x + Extern.MathBitsCarry.m64 - y - b) % Extern.MathBitsCarry.m64) (if x < y + b then 1 else 0))
/-- What is borrowed. -/
def bor (x y b : Nat) : Nat := if x < y + b then 1 else 0
theorem bor_le (x y b : Nat) : bor x y b ≤ 1 := by unfold bor; split <;> omega
theorem sub64_run (x y b : Nat) (hb : b ≤ 1) (w : World) :
    (callFunc 60 #[.int .u64 x, .int .u64 y, .int .u64 b]).run Try.prog w =
      .ok (.value (.tuple #[.int .u64 (((x + B - y - b) % B : Nat) : Int), .int .u64 ((bor x y b : Nat) : Int)])) w := by
  rw [run_callFunc_extern Try.func60 (by kernel_rfl) (by kernel_rfl) (by kernel_rfl) (e := sub64Entry) (by kernel_rfl)]
  have : b = 0 ∨ b = 1 := by omega
  rcases this with rfl | rfl <;> rfl
set_option maxHeartbeats 1000000 in
theorem addTo_any (g o n c : Nat) (bo : Option Addr) (m c' : Nat) (w : World) (hn : n ≤ 9000000000) (f h : Nat → Nat) (hm : m ≤ n)
   (hf : Held w g o n f) (hb : Reads w bo m h) (hne : Apart bo m g) :
    Calls Try.prog 49 #[.slice (some ⟨g, o, none⟩) n c, .slice bo m c'] w fun e w' => e = .returned (.tuple #[]) ∧
      ∃ f' cc, cc ≤ 1 ∧ Held w' g o n f' ∧ Turn g o n w w' ∧ V f' n + cc * B ^ n = V f n + V h m := by
  have hfB := hf.lt; have hhB := hb.lt
  have HF := Lib.hid hf; have HB := Lib.hid hb; have HN := Lib.hid hne; have HFB := Lib.hid hfB; have HHB := Lib.hid hhB
  clear hf hb hne hfB hhB
  go_enter Try.func49, Try.ntmps49
  go_wp2
  go_loopw [4, 10] (fun cy i wr => ∃ k cc : Nat, ∃ f' : Nat → Nat, k ≤ m ∧ cc ≤ 1 ∧ i = .int .i64 k ∧ cy = .int .u64 cc ∧
      Held wr g o n f' ∧ Turn g o n w wr ∧ V f' k + cc * B ^ k = V f k + V h k ∧ ∀ i, k ≤ i → f' i = f i) (fun _ i _ => m - (intOf i).toNat)
  case atStart => exact ⟨0, 0, f, Nat.zero_le _, by omega, rfl, rfl, HF.out, Turn.refl _ _ _ _, by simp [V], fun _ _ => rfl⟩
  case round =>
    obtain ⟨k, cc, f', hk, hcc, rfl, rfl, hfr, htr, hV, hs⟩ := hrel
    have HFR := Lib.hid hfr; have HTR := Lib.hid htr; have HV := Lib.hid hV; have HS := Lib.hid hs
    clear hfr htr hV hs
    by_cases hlt : k < m
    · obtain ⟨b', o', rfl, hbc, hbB⟩ := (HB.out.turn HTR.out HN.out) k hlt
      obtain ⟨hac, haf, haB⟩ := HFR.out k (by omega)
      rw [HS.out k (Nat.le_refl _)] at hac haB
      have hadd := fun w => add64_run (f k) (h k) cc hcc w
      go_wp2
      clear hadd
      refine ⟨⟨k + 1, (f k + h k + cc) / B, upd f' k ((f k + h k + cc) % B), by omega, sum_carry haB hbB hcc, by go_num, rfl, HFR.out.setCell (mod_lt _) (by omega), HTR.out.setCell (by omega) (by omega) _, ?_, ?_⟩, by simp [intOf]; omega⟩
      · rw [V_upd_succ, V_succ f, V_succ h]
        rw [Nat.pow_succ]; exact add_arith _ _ _ _ (sum_step (f k) (h k) cc) HV.out
      · intro i hi; rw [upd_other _ _ _ (by omega)]; exact HS.out i (by omega)
    · have hkm : k = m := by omega
      subst hkm
      go_wp2
      go_loopw [4, 7] (fun cy i wr => ∃ k' cc : Nat, ∃ f' : Nat → Nat, k ≤ k' ∧ k' ≤ n ∧ cc ≤ 1 ∧ i = .int .i64 k' ∧ cy = .int .u64 cc ∧
          Held wr g o n f' ∧ Turn g o n w wr ∧ V f' k' + cc * B ^ k' = V f k' + V h k ∧ ∀ i, k' ≤ i → f' i = f i) (fun _ i _ => n - (intOf i).toNat)
      case atStart => exact ⟨k, cc, f', Nat.le_refl _, hm, hcc, rfl, rfl, HFR.out, HTR.out, HV.out, HS.out⟩
      case round =>
        clear HFR HTR HV HS
        obtain ⟨k', cc, f', hkk, hk, hcc, rfl, rfl, hfr, htr, hV, hs⟩ := hrel
        have HFR := Lib.hid hfr; have HTR := Lib.hid htr; have HV := Lib.hid hV; have HS := Lib.hid hs
        clear hfr htr hV hs
        have hend : (cc = 0 ∨ k' = n) → ∃ f'' cc, cc ≤ 1 ∧ Held wr g o n f'' ∧ Turn g o n w wr ∧ V f'' n + cc * B ^ n = V f n + V h k := by
          intro hor
          refine ⟨f', cc, hcc, HFR.out, HTR.out, ?_⟩
          rcases hor with h0 | h0
          · have h1 := V_above (f := f') (g := f) hk (fun i a _ => HS.out i a)
            have h2 := HV.out
            rw [h0] at h2 ⊢; omega
          · rw [← h0]; exact HV.out
        have HE := Lib.hid hend; clear hend
        by_cases h0 : cc = 0
        · subst h0
          have he := HE.out (.inl rfl); have HE2 := Lib.hid he; clear he HE
          go_wp2
          go_end0
          exact ⟨rfl, HE2.out⟩
        · have hc1 : ((cc : Int) != 0) = true := by simp only [bne_iff_ne]; omega
          by_cases hlt : k' < n
          · obtain ⟨hac, haf, haB⟩ := HFR.out k' hlt
            rw [HS.out k' (Nat.le_refl _)] at hac haB
            have hadd : ∀ w, (callFunc 58 #[.int .u64 (f k'), .int .u64 0, .int .u64 cc]).run Try.prog w = .ok (.value (.tuple #[.int .u64 (((f k' + 0 + cc) % B : Nat) : Int), .int .u64 (((f k' + 0 + cc) / B : Nat) : Int)])) w := fun w => add64_run (f k') 0 cc hcc w
            go_wp2
            clear hadd
            refine ⟨⟨k' + 1, (f k' + 0 + cc) / B, upd f' k' ((f k' + 0 + cc) % B), by omega, by omega, sum_carry haB B_pos hcc, by go_num, rfl, HFR.out.setCell (mod_lt _) (by omega), HTR.out.setCell (by omega) (by omega) _, ?_, ?_⟩, by simp [intOf]; omega⟩
            · rw [V_upd_succ, V_succ f]
              rw [Nat.pow_succ]; have := add_arith _ _ _ _ (sum_step (f k') 0 cc) HV.out; omega
            · intro i hi; rw [upd_other _ _ _ (by omega)]; exact HS.out i (by omega)
          · have he := HE.out (.inr (by omega)); have HE2 := Lib.hid he; clear he HE
            go_wp2
            go_end0
            exact ⟨rfl, HE2.out⟩
theorem diff_stepb {x y b : Nat} (hx : x < B) (hy : y < B) (hb : b ≤ 1) : (x + B - y - b) % B + y + b = x + bor x y b * B := diff_step hx hy hb
set_option maxHeartbeats 1000000 in
theorem takeFrom_any (g o n c : Nat) (bo : Option Addr) (m c' : Nat) (w : World) (hn : n ≤ 9000000000) (f h : Nat → Nat) (hm : m ≤ n)
   (hf : Held w g o n f) (hb : Reads w bo m h) (hne : Apart bo m g) (hle : V h m ≤ V f n) :
    Calls Try.prog 52 #[.slice (some ⟨g, o, none⟩) n c, .slice bo m c'] w fun e w' => e = .returned (.tuple #[]) ∧
      ∃ f', Held w' g o n f' ∧ Turn g o n w w' ∧ V f' n + V h m = V f n := by
  have HF := Lib.hid hf; have HB := Lib.hid hb; have HN := Lib.hid hne; have HLE := Lib.hid hle
  clear hf hb hne hle
  go_enter Try.func52, Try.ntmps52
  go_wp2
  go_loopw [4, 10] (fun cy i wr => ∃ k cc : Nat, ∃ f' : Nat → Nat, k ≤ m ∧ cc ≤ 1 ∧ i = .int .i64 k ∧ cy = .int .u64 cc ∧
      Held wr g o n f' ∧ Turn g o n w wr ∧ V f' k + V h k = V f k + cc * B ^ k ∧ ∀ i, k ≤ i → f' i = f i) (fun _ i _ => m - (intOf i).toNat)
  case atStart => exact ⟨0, 0, f, Nat.zero_le _, by omega, rfl, rfl, HF.out, Turn.refl _ _ _ _, by simp [V], fun _ _ => rfl⟩
  case round =>
    obtain ⟨k, cc, f', hk, hcc, rfl, rfl, hfr, htr, hV, hs⟩ := hrel
    have HFR := Lib.hid hfr; have HTR := Lib.hid htr; have HV := Lib.hid hV; have HS := Lib.hid hs
    clear hfr htr hV hs
    by_cases hlt : k < m
    · obtain ⟨b', o', rfl, hbc, hbB⟩ := (HB.out.turn HTR.out HN.out) k hlt
      obtain ⟨hac, haf, haB⟩ := HFR.out k (by omega)
      rw [HS.out k (Nat.le_refl _)] at hac haB
      have hsub := fun w => sub64_run (f k) (h k) cc hcc w
      go_wp2
      clear hsub
      refine ⟨⟨k + 1, bor (f k) (h k) cc, upd f' k ((f k + B - h k - cc) % B), by omega, bor_le _ _ _, by go_num, rfl, HFR.out.setCell (mod_lt _) (by omega), HTR.out.setCell (by omega) (by omega) _, ?_, ?_⟩, by simp [intOf]; omega⟩
      · rw [V_upd_succ, V_succ f, V_succ h, Nat.pow_succ]
        exact sub_arith _ _ _ _ (diff_stepb haB hbB hcc) HV.out
      · intro i hi; rw [upd_other _ _ _ (by omega)]; exact HS.out i (by omega)
    · have hkm : k = m := by omega
      subst hkm
      go_wp2
      go_loopw [4, 7] (fun cy i wr => ∃ k' cc : Nat, ∃ f' : Nat → Nat, k ≤ k' ∧ k' ≤ n ∧ cc ≤ 1 ∧ i = .int .i64 k' ∧ cy = .int .u64 cc ∧
          Held wr g o n f' ∧ Turn g o n w wr ∧ V f' k' + V h k = V f k' + cc * B ^ k' ∧ ∀ i, k' ≤ i → f' i = f i) (fun _ i _ => n - (intOf i).toNat)
      case atStart => exact ⟨k, cc, f', Nat.le_refl _, hm, hcc, rfl, rfl, HFR.out, HTR.out, HV.out, HS.out⟩
      case round =>
        clear HFR HTR HV HS
        obtain ⟨k', cc, f', hkk, hk, hcc, rfl, rfl, hfr, htr, hV, hs⟩ := hrel
        have HFR := Lib.hid hfr; have HTR := Lib.hid htr; have HV := Lib.hid hV; have HS := Lib.hid hs
        clear hfr htr hV hs
        by_cases h0 : cc = 0
        · subst h0
          have he : ∃ f'', Held wr g o n f'' ∧ Turn g o n w wr ∧ V f'' n + V h k = V f n := by
            refine ⟨f', HFR.out, HTR.out, ?_⟩
            have h1 := V_above (f := f') (g := f) hk (fun i a _ => HS.out i a)
            have h2 := HV.out
            omega
          have HE2 := Lib.hid he; clear he
          go_wp2
          go_end0
          exact ⟨rfl, HE2.out⟩
        · have hlt : k' < n := by
            rcases Nat.lt_or_ge k' n with hh | hh
            · exact hh
            · exfalso
              have : k' = n := by omega
              subst this
              have h1 := HV.out
              have h2 := V_lt HFR.out.lt
              have h3 := HLE.out
              have h4 : cc = 1 := by omega
              rw [h4] at h1; omega
          have hc1 : ((cc : Int) != 0) = true := by simp only [bne_iff_ne]; omega
          obtain ⟨hac, haf, haB⟩ := HFR.out k' hlt
          rw [HS.out k' (Nat.le_refl _)] at hac haB
          have hsub : ∀ w, (callFunc 60 #[.int .u64 (f k'), .int .u64 0, .int .u64 cc]).run Try.prog w = .ok (.value (.tuple #[.int .u64 (((f k' + B - 0 - cc) % B : Nat) : Int), .int .u64 ((bor (f k') 0 cc : Nat) : Int)])) w := fun w => sub64_run (f k') 0 cc hcc w
          go_wp2
          clear hsub
          refine ⟨⟨k' + 1, bor (f k') 0 cc, upd f' k' ((f k' + B - 0 - cc) % B), by omega, by omega, bor_le _ _ _, by go_num, rfl, HFR.out.setCell (mod_lt _) (by omega), HTR.out.setCell (by omega) (by omega) _, ?_, ?_⟩, by simp [intOf]; omega⟩
          · rw [V_upd_succ, V_succ f, Nat.pow_succ]
            have := sub_arith _ _ _ _ (diff_stepb haB B_pos hcc) HV.out
            omega
          · intro i hi; rw [upd_other _ _ _ (by omega)]; exact HS.out i (by omega)
set_option maxHeartbeats 1000000 in
theorem addTimes_any (g o n c : Nat) (bo : Option Addr) (m c' x : Nat) (w : World) (hn : n ≤ 9000000000) (f h : Nat → Nat) (hm : m ≤ n) (hx : x < B)
   (hf : Held w g o n f) (hb : Reads w bo m h) (hne : Apart bo m g) :
    Calls Try.prog 53 #[.slice (some ⟨g, o, none⟩) n c, .slice bo m c', .int .u64 x] w fun e w' =>
      ∃ f' over, e = .returned (.int .u64 ((over : Nat) : Int)) ∧ over < B ∧ Held w' g o n f' ∧ Turn g o m w w' ∧ V f' m + over * B ^ m = V f m + V h m * x ∧ ∀ i, m ≤ i → f' i = f i := by
  have HF := Lib.hid hf; have HB := Lib.hid hb; have HN := Lib.hid hne; have HX := Lib.hid hx
  clear hf hb hne hx
  go_enter Try.func53, Try.ntmps53
  go_wp2
  go_loopw [7, 16] (fun ov i wr => ∃ k over : Nat, ∃ f' : Nat → Nat, k ≤ m ∧ over < B ∧ i = .int .i64 k ∧ ov = .int .u64 over ∧
      Held wr g o n f' ∧ Turn g o m w wr ∧ V f' k + over * B ^ k = V f k + V h k * x ∧ ∀ i, k ≤ i → f' i = f i) (fun _ i _ => m - (intOf i).toNat)
  case atStart => exact ⟨0, 0, f, Nat.zero_le _, B_pos, rfl, rfl, HF.out, Turn.refl _ _ _ _, by simp [V], fun _ _ => rfl⟩
  case round =>
    obtain ⟨k, over, f', hk, hov, rfl, rfl, hfr, htr, hV, hs⟩ := hrel
    have HFR := Lib.hid hfr; have HTR := Lib.hid htr; have HV := Lib.hid hV; have HS := Lib.hid hs; have HOV := Lib.hid hov
    clear hfr htr hV hs hov
    by_cases hlt : k < m
    · obtain ⟨b', o', rfl, hbc, hbB⟩ := (HB.out.turn HTR.out HN.out) k hlt
      obtain ⟨hac, haf, haB⟩ := HFR.out k (by omega)
      rw [HS.out k (Nat.le_refl _)] at hac haB
      have hmac := mac hbB HX.out HOV.out haB
      have hmul := fun w => mul64_any (h k) x w hbB HX.out
      have hadd1 := fun w => add64_run (h k * x % B) over 0 (by omega) w
      have hadd2 := fun w => add64_run (f k) ((h k * x % B + over + 0) % B) 0 (by omega) w
      obtain ⟨hi, ehi⟩ : ∃ t, h k * x / B = t := ⟨_, rfl⟩
      obtain ⟨lo, elo⟩ : ∃ t, h k * x % B = t := ⟨_, rfl⟩
      rw [ehi, elo] at hmac; simp only [ehi, elo] at hmul; simp only [elo] at hadd1 hadd2
      obtain ⟨c1, ec1⟩ : ∃ t, (lo + over + 0) / B = t := ⟨_, rfl⟩
      obtain ⟨l2, el2⟩ : ∃ t, (lo + over + 0) % B = t := ⟨_, rfl⟩
      rw [ec1, el2] at hmac; simp only [ec1, el2] at hadd1; simp only [el2] at hadd2
      have hsB : (f k + l2 + 0) % B < B := mod_lt _
      obtain ⟨d1, ed1⟩ : ∃ t, (f k + l2 + 0) / B = t := ⟨_, rfl⟩
      obtain ⟨s1, es1⟩ : ∃ t, (f k + l2 + 0) % B = t := ⟨_, rfl⟩
      rw [ed1, es1] at hmac; rw [es1] at hsB; simp only [ed1, es1] at hadd2
      have HM := Lib.hid hmac; have HSB := Lib.hid hsB; have HMUL := Lib.hid hmul; clear hmac hbB haB ehi elo ec1 el2 ed1 es1 hsB hmul
      have hadd1' : ∀ w, (callFunc 58 #[.int .u64 lo, .int .u64 over, .int .u64 0]).run Try.prog w = .ok (.value (.tuple #[.int .u64 l2, .int .u64 c1])) w := hadd1
      have hadd2' : ∀ w, (callFunc 58 #[.int .u64 (f k), .int .u64 l2, .int .u64 0]).run Try.prog w = .ok (.value (.tuple #[.int .u64 s1, .int .u64 d1])) w := hadd2
      clear hadd1 hadd2
      go_wp2_with (go_at_call 61; refine (HMUL.out _).mono ?_; rintro e w1 ⟨rfl, rfl⟩)
      clear hadd1' hadd2'
      refine ⟨⟨k + 1, hi + c1 + d1, upd f' k s1, by omega, HM.out.1, by go_num, ?_, HFR.out.setCell HSB.out (by omega), HTR.out.setCell (by omega) (by omega) _, ?_, ?_⟩, by simp [intOf]; omega⟩
      · have h1 := HM.out.1
        have h2 : hi + c1 < B := by omega
        rw [addN, wrapS _ h2, addN, wrapS _ h1]
      · rw [V_upd_succ, V_succ f, V_succ h, Nat.pow_succ]
        exact mac_arith _ _ _ _ HM.out.2 HV.out
      · intro i hi'; rw [upd_other _ _ _ (by omega)]; exact HS.out i (by omega)
    · have hkm : k = m := by omega
      subst hkm
      go_wp2
      go_ret
      exact ⟨f', over, rfl, HOV.out, HFR.out, HTR.out, HV.out, HS.out⟩
set_option maxHeartbeats 1000000 in
theorem takeTimes_any (g o n c : Nat) (bo : Option Addr) (m c' x : Nat) (w : World) (hn : n ≤ 9000000000) (f h : Nat → Nat) (hm : m ≤ n) (hx : x < B)
   (hf : Held w g o n f) (hb : Reads w bo m h) (hne : Apart bo m g) :
    Calls Try.prog 68 #[.slice (some ⟨g, o, none⟩) n c, .slice bo m c', .int .u64 x] w fun e w' =>
      ∃ f' over, e = .returned (.int .u64 ((over : Nat) : Int)) ∧ over < B ∧ Held w' g o n f' ∧ Turn g o m w w' ∧ V f' m + V h m * x = V f m + over * B ^ m ∧ ∀ i, m ≤ i → f' i = f i := by
  have HF := Lib.hid hf; have HB := Lib.hid hb; have HN := Lib.hid hne; have HX := Lib.hid hx
  clear hf hb hne hx
  go_enter Try.func68, Try.ntmps68
  go_wp2
  go_loopw [7, 16] (fun ov i wr => ∃ k over : Nat, ∃ f' : Nat → Nat, k ≤ m ∧ over < B ∧ i = .int .i64 k ∧ ov = .int .u64 over ∧
      Held wr g o n f' ∧ Turn g o m w wr ∧ V f' k + V h k * x = V f k + over * B ^ k ∧ ∀ i, k ≤ i → f' i = f i) (fun _ i _ => m - (intOf i).toNat)
  case atStart => exact ⟨0, 0, f, Nat.zero_le _, B_pos, rfl, rfl, HF.out, Turn.refl _ _ _ _, by simp [V], fun _ _ => rfl⟩
  case round =>
    obtain ⟨k, over, f', hk, hov, rfl, rfl, hfr, htr, hV, hs⟩ := hrel
    have HFR := Lib.hid hfr; have HTR := Lib.hid htr; have HV := Lib.hid hV; have HS := Lib.hid hs; have HOV := Lib.hid hov
    clear hfr htr hV hs hov
    by_cases hlt : k < m
    · obtain ⟨b', o', rfl, hbc, hbB⟩ := (HB.out.turn HTR.out HN.out) k hlt
      obtain ⟨hac, haf, haB⟩ := HFR.out k (by omega)
      rw [HS.out k (Nat.le_refl _)] at hac haB
      have hmac := msc hbB HX.out HOV.out haB
      have hmul := fun w => mul64_any (h k) x w hbB HX.out
      have hadd1 := fun w => add64_run (h k * x % B) over 0 (by omega) w
      have hadd2 := fun w => sub64_run (f k) ((h k * x % B + over + 0) % B) 0 (by omega) w
      obtain ⟨hi, ehi⟩ : ∃ t, h k * x / B = t := ⟨_, rfl⟩
      obtain ⟨lo, elo⟩ : ∃ t, h k * x % B = t := ⟨_, rfl⟩
      rw [ehi, elo] at hmac; simp only [ehi, elo] at hmul; simp only [elo] at hadd1 hadd2
      obtain ⟨c1, ec1⟩ : ∃ t, (lo + over + 0) / B = t := ⟨_, rfl⟩
      obtain ⟨l2, el2⟩ : ∃ t, (lo + over + 0) % B = t := ⟨_, rfl⟩
      rw [ec1, el2] at hmac; simp only [ec1, el2] at hadd1; simp only [el2] at hadd2
      have hsB : (f k + B - l2 - 0) % B < B := mod_lt _
      obtain ⟨d1, ed1⟩ : ∃ t, (if f k < l2 + 0 then 1 else 0) = t := ⟨_, rfl⟩
      obtain ⟨s1, es1⟩ : ∃ t, (f k + B - l2 - 0) % B = t := ⟨_, rfl⟩
      rw [ed1, es1] at hmac; rw [es1] at hsB; simp only [bor, ed1, es1] at hadd2
      have HM := Lib.hid hmac; have HSB := Lib.hid hsB; have HMUL := Lib.hid hmul; clear hmac hbB haB ehi elo ec1 el2 ed1 es1 hsB hmul
      have hadd1' : ∀ w, (callFunc 58 #[.int .u64 lo, .int .u64 over, .int .u64 0]).run Try.prog w = .ok (.value (.tuple #[.int .u64 l2, .int .u64 c1])) w := hadd1
      have hadd2' : ∀ w, (callFunc 60 #[.int .u64 (f k), .int .u64 l2, .int .u64 0]).run Try.prog w = .ok (.value (.tuple #[.int .u64 s1, .int .u64 d1])) w := hadd2
      clear hadd1 hadd2
      go_wp2_with (go_at_call 61; refine (HMUL.out _).mono ?_; rintro e w1 ⟨rfl, rfl⟩)
      clear hadd1' hadd2'
      refine ⟨⟨k + 1, hi + c1 + d1, upd f' k s1, by omega, HM.out.1, by go_num, ?_, HFR.out.setCell HSB.out (by omega), HTR.out.setCell (by omega) (by omega) _, ?_, ?_⟩, by simp [intOf]; omega⟩
      · have h1 := HM.out.1
        have h2 : hi + c1 < B := by omega
        rw [addN, wrapS _ h2, addN, wrapS _ h1]
      · rw [V_upd_succ, V_succ f, V_succ h, Nat.pow_succ]
        exact msc_arith _ _ _ _ HM.out.2 HV.out
      · intro i hi'; rw [upd_other _ _ _ (by omega)]; exact HS.out i (by omega)
    · have hkm : k = m := by omega
      subst hkm
      go_wp2
      go_ret
      exact ⟨f', over, rfl, HOV.out, HFR.out, HTR.out, HV.out, HS.out⟩
end Go.Proofs.Ytbfdianmbpfjmaa
