/- deci: what its small calls answer. -/
import Derived.Test.YtbeohedkeklaiaaGreatDoorDeciK
import Derived.Test.YtbeohedkeklaiaaGreatDoorPartk
import Derived.Test.YtbeohedkeklaiaaGreatDoorPartg
import Derived.Lib.ConvBytes
import Derived.Lib.AtoiErrMem
import Derived.Laws.Strings3
namespace Go.Proofs.YtbeohedkeklaiaaGreatDoor
open Go.RowKit Go.MagS
/-- '[]byte(s)': a new row of a text's bytes. -/
theorem conv_bytes (l : List UInt8) (w : World) : ∃ w1 cap, (convert 9 75 (.string (str l))).run Tryz.prog w = .ok (.slice (some ⟨w.heap.size, 0, none⟩) l.length cap) w1 ∧
    (∀ j x, l[j]? = some x → w1.cell? ⟨w.heap.size, j, none⟩ = some (.int .u8 (x.toNat : Int))) ∧ Below w.heap.size w w1 := by
  have h := Lib.run_convert_string_bytes (P := Tryz.prog) w 9 75 5 (str l) Tryz.underlying9 Tryz.underlying75 Tryz.underlying5
  rw [str_size] at h
  refine ⟨_, _, h, fun j x hj => ?_, Lib.bytesWorld_below _ _ _⟩
  have hlt : j < l.length := (List.getElem?_eq_some_iff.1 hj).1
  rw [Lib.bytesWorld_cell _ _ _ _ (by rw [str_size]; exact hlt), str_data]
  simp [List.getD, hj]
theorem take_snoc {l : List UInt8} {k : Nat} {x : UInt8} (h : l[k]? = some x) : l.take (k + 1) = l.take k ++ [x] := by
  rw [List.take_add_one, h]; rfl
theorem not_all {l : List UInt8} {k : Nat} {x : UInt8} (h : l[k]? = some x) (hx : isDig x = false) : allDig l = false := by
  unfold allDig
  rw [Bool.and_eq_false_iff]; left
  rw [List.all_eq_false]
  exact ⟨x, List.mem_of_getElem? h, by simp [hx]⟩
set_option maxRecDepth 100000 in
set_option maxHeartbeats 1000000 in
theorem isDigits_any (l : List UInt8) (w : World) (hl : l.length ≤ 1000000) :
    Calls Tryz.prog 41 #[.string (str l)] w fun e w' => e = .returned (.bool (allDig l)) ∧ Below w.heap.size w w' := by
  obtain ⟨w1, cap, hconv, hcell, hbel⟩ := conv_bytes l w
  have HC := Lib.hid hcell; clear hcell
  go_enter Tryz.func41, Tryz.ntmps41
  go_wp2
  clear hconv
  go_loop [8] (fun i => ∃ k : Nat, k ≤ l.length ∧ i = .int .i64 k ∧ (l.take k).all isDig = true) (fun i => l.length - (intOf i).toNat)
  case atStart => exact ⟨0, Nat.zero_le _, rfl, rfl⟩
  case round =>
    obtain ⟨k, hk, rfl, hr⟩ := hrel
    have HR := Lib.hid hr; clear hr
    by_cases hlt : k < l.length
    · obtain ⟨x, hx⟩ : ∃ x, l[k]? = some x := ⟨_, List.getElem?_eq_getElem hlt⟩
      have hc := HC.out k x hx
      have HX := Lib.hid hx; clear hx
      by_cases hd : isDig x = true
      · have HD := Lib.hid hd
        rw [isDig_iff] at hd
        have h1 : ¬ ((x.toNat : Int) < 48) := by omega
        have h2 : ¬ ((57 : Int) < (x.toNat : Int)) := by omega
        go_wp2
        go_round
        case rel => exact ⟨k + 1, by omega, by go_num, by rw [take_snoc HX.out, List.all_append, HR.out, List.all_cons, HD.out]; rfl⟩
        case measure => simp [intOf]; omega
      · have HD := Lib.hid hd
        have hf : allDig l = false := not_all HX.out (by simpa using hd)
        have HF := Lib.hid hf; clear hf
        rw [isDig_iff] at hd
        by_cases h1 : (x.toNat : Int) < 48
        · go_wp2
          go_ret
          exact ⟨by rw [HF.out]; rfl, hbel⟩
        · have h2 : (57 : Int) < (x.toNat : Int) := by omega
          clear hd
          go_wp2
          go_ret
          exact ⟨by rw [HF.out]; rfl, hbel⟩
    · obtain rfl : k = l.length := by omega
      go_wp2
      go_ret
      refine ⟨?_, hbel⟩
      have h1 := HR.out
      rw [List.take_length] at h1
      show Ending.returned (.bool (!(str l).toList.isEmpty)) = _
      rw [str_list]; unfold allDig; rw [h1]; rfl
/-- Digits count no more than this. -/
def capN (n : Nat) : Nat := min n 2147483649
theorem capN_le (n : Nat) : capN n ≤ 2147483649 := by unfold capN; omega
set_option maxRecDepth 100000 in
set_option maxHeartbeats 1000000 in
theorem capped_any (l : List UInt8) (w : World) (hl : l.length ≤ 1000000) (hall : l.all isDig = true) :
    Calls Tryz.prog 44 #[.string (str l)] w fun e w' => e = .returned (.int .i64 ((capN (dval 0 l) : Nat) : Int)) ∧ Below w.heap.size w w' := by
  obtain ⟨w1, cap, hconv, hcell, hbel⟩ := conv_bytes l w
  have HC := Lib.hid hcell; clear hcell
  have HA := Lib.hid hall; clear hall
  go_enter Tryz.func44, Tryz.ntmps44
  go_wp2
  clear hconv
  go_loop [3, 9] (fun n i => ∃ k : Nat, k ≤ l.length ∧ i = .int .i64 k ∧ n = .int .i64 ((capN (dval 0 (l.take k)) : Nat) : Int)) (fun _ i => l.length - (intOf i).toNat)
  case atStart => exact ⟨0, Nat.zero_le _, rfl, rfl⟩
  case round =>
    obtain ⟨k, hk, rfl, rfl⟩ := hrel
    obtain ⟨n, hn⟩ : ∃ n, capN (dval 0 (l.take k)) = n := ⟨_, rfl⟩
    have hn2 : n ≤ 2147483649 := hn ▸ capN_le _
    rw [hn]
    by_cases hlt : k < l.length
    · obtain ⟨x, hx⟩ : ∃ x, l[k]? = some x := ⟨_, List.getElem?_eq_getElem hlt⟩
      have hc := HC.out k x hx
      have hd := List.all_eq_true.1 HA.out x (List.mem_of_getElem? hx)
      rw [isDig_iff] at hd
      obtain ⟨d, hd2⟩ : ∃ d, x.toNat - 48 = d := ⟨_, rfl⟩
      have e1 : (x.toNat : Int) = (d : Int) + 48 := by omega
      have hd9 : d ≤ 9 := by omega
      have hst : ((capN (dval 0 (l.take (k + 1))) : Nat) : Int) = min (10 * (n : Int) + (d : Int)) 2147483649 := by
        rw [take_snoc hx, dval_append, dval_cons, dval_nil, hd2, ← hn]; unfold capN; omega
      rw [e1] at hc
      have HST := Lib.hid hst
      clear hst hd hd2 e1 hx hn
      go_wp2
      go_round
      case rel => exact ⟨k + 1, by omega, by go_num, by rw [HST.out]⟩
      case measure => simp [intOf]; omega
    · obtain rfl : k = l.length := by omega
      have HN := Lib.hid hn; clear hn
      go_wp2
      go_ret
      exact ⟨by rw [← HN.out, List.take_length]; rfl, hbel⟩
/-- A scale, brought to what may be. -/
def scl (s : Int) : Nat := (min (max s 0) 9).toNat
theorem scl_le (s : Int) : scl s ≤ 9 := by unfold scl; omega
theorem scaleOf_any (s : Int) (w : World) : Calls Tryz.prog 43 #[.int .i64 s] w fun e w' => e = .returned (.int .i64 ((scl s : Nat) : Int)) ∧ w = w' := by
  have hs : ((scl s : Nat) : Int) = max 0 (min s 9) := by unfold scl; omega
  have HS := Lib.hid hs; clear hs
  go_enter Tryz.func43, Tryz.ntmps43
  go_wp2
  go_ret
  exact ⟨by rw [HS.out]; rfl, rfl⟩
/-- The sign of a text, and what is left. -/
theorem cutSign_any (l : List UInt8) (w : World) : Calls Tryz.prog 39 #[.string (str l)] w fun e w' => e = .returned (.tuple #[.bool (cutS l).1, .string (str (cutS l).2)]) ∧ w = w' := by
  cases l with
  | nil =>
    go_enter Tryz.func39, Tryz.ntmps39
    have e : (str ([] : List UInt8)).toList.isEmpty = true := by rw [str_list]; rfl
    go_wp2
    go_ret2
    exact ⟨rfl, rfl⟩
  | cons c r =>
    have e : (str (c :: r)).toList.isEmpty = false := by rw [str_list]; rfl
    have hz : (str (c :: r)).size = r.length + 1 := by rw [str_size]; rfl
    have hz0 : 0 < (str (c :: r)).size := by omega
    have hat : (str (c :: r))[0] = c := rfl
    have hx : (str (c :: r)).extract 1 (r.length + 1) = str r := by rw [str_extract]; simp
    by_cases h1 : c = 45
    · subst h1
      go_enter Tryz.func39, Tryz.ntmps39
      go_wp2
      go_ret2
      exact ⟨rfl, rfl⟩
    · by_cases h2 : c = 43
      · subst h2
        go_enter Tryz.func39, Tryz.ntmps39
        go_wp2
        go_ret2
        exact ⟨rfl, rfl⟩
      · have hc : cutS (c :: r) = (false, c :: r) := by simp only [cutS, if_neg h1, if_neg h2]
        have HC := Lib.hid hc
        have h1' : ((c.toNat : Int) == 45) = false := by
          simp only [beq_eq_false_iff_ne]; intro h; exact h1 (byte_ext (by have : (45 : UInt8).toNat = 45 := rfl; omega))
        have h2' : ((c.toNat : Int) == 43) = false := by
          simp only [beq_eq_false_iff_ne]; intro h; exact h2 (byte_ext (by have : (43 : UInt8).toNat = 43 := rfl; omega))
        clear hc h1 h2
        go_enter Tryz.func39, Tryz.ntmps39
        go_wp2
        go_ret2
        exact ⟨by rw [HC.out]; rfl, rfl⟩
/-- So many 0s; none, if that is below 0. -/
theorem zeros_any (n : Int) (w : World) (hn : n ≤ 1000000) : Calls Tryz.prog 74 #[.int .i64 n] w fun e w' => e = .returned (.string (str (List.replicate n.toNat 48))) ∧ Below w.heap.size w w' := by
  have hm : max 0 n = ((n.toNat : Nat) : Int) := by omega
  have hlen : n.toNat ≤ 1000000 := by omega
  obtain ⟨m, hm2⟩ : ∃ m, n.toNat = m := ⟨_, rfl⟩
  rw [hm2] at hm hlen ⊢
  clear hm2 hn
  go_enter Tryz.func74, Tryz.ntmps74
  go_wp2_with (go_at_call 105; refine (Tryz.strings_Repeat ⟨#[48]⟩ m _ (by omega) (by show 1 * m ≤ _; omega)).mono ?_; rintro e w1 ⟨rfl, hb⟩)
  go_ret
  exact ⟨by rw [repeat_zero]; rfl, hb⟩
/-- Cut at the first of one byte. -/
theorem cutIn_any (l : List UInt8) (c : UInt8) (w : World) (hl : l.length ≤ 1000000) : Calls Tryz.prog 72 #[.string (str l), .string ⟨#[c]⟩] w fun e w' => e = .returned (.tuple #[.string (str (cutC c l).1), .string (str (cutC c l).2.1), .bool (cutC c l).2.2]) ∧ Below w.heap.size w w' := by
  have hone := Tryz.stringslite_Index_one (str l) c w
  rw [str_data] at hone
  rcases index_one c l with ⟨i, h1, h2, h3⟩ | ⟨h1, h3⟩
  · rw [h1] at hone
    have hz : (str l).size = l.length := str_size l
    have hx1 : (str l).extract 0 i = str (l.take i) := by rw [str_extract]; simp
    have hx2 : (str l).extract (i + 1) l.length = str (l.drop (i + 1)) := by rw [str_extract, List.take_of_length_le (by simp)]
    have hsz : (⟨#[c]⟩ : ByteArray).size = 1 := rfl
    have e1 : IntKind.i64.wrap ((i : Int) + 1) = (i : Int) + 1 := by rw [IntKind.wrap_i64]; omega
    have c1 : (0 : Int) ≤ (i : Int) + 1 := by omega
    have c2 : (i : Int) + 1 ≤ (l.length : Int) := by omega
    have c3 : (i : Int) ≤ (l.length : Int) := by omega
    have H3 := Lib.hid h3; clear h1 h3
    go_enter Tryz.func72, Tryz.ntmps72
    go_wp2_with (go_at_call 97; refine hone.mono ?_; clear hone; rintro e w1 ⟨rfl, rfl⟩)
    go_region
    go_wp2
    go_ret3
    exact ⟨by rw [H3.out]; rfl, (Below.refl _ _).drewN' _⟩
  · rw [h1] at hone
    have H3 := Lib.hid h3; clear h1 h3
    go_enter Tryz.func72, Tryz.ntmps72
    go_wp2_with (go_at_call 97; refine hone.mono ?_; clear hone; rintro e w1 ⟨rfl, rfl⟩)
    go_ret3
    exact ⟨by rw [H3.out]; rfl, Below.refl _ _⟩
theorem cut_any (l : List UInt8) (c : UInt8) (w : World) (hl : l.length ≤ 1000000) : Calls Tryz.prog 40 #[.string (str l), .string ⟨#[c]⟩] w fun e w' => e = .returned (.tuple #[.string (str (cutC c l).1), .string (str (cutC c l).2.1), .bool (cutC c l).2.2]) ∧ Below w.heap.size w w' := by
  go_enter Tryz.func40, Tryz.ntmps40
  go_wp2_with (go_at_call 72; refine (cutIn_any _ _ _ hl).mono ?_; rintro e w1 ⟨rfl, hb⟩)
  go_ret3
  exact ⟨rfl, hb⟩
theorem cutM_any (l : List UInt8) (w : World) : Calls Tryz.prog 70 #[.string (str l), .string ⟨#[45]⟩] w fun e w' => e = .returned (.tuple #[.string (str (cutM l).2), .bool (cutM l).1]) ∧ Below w.heap.size w w' := by
  refine (Tryz.strings_CutPrefix (str l) ⟨#[45]⟩ w).mono fun e w' h => ?_
  obtain ⟨rfl, rfl⟩ := h
  rw [str_data]
  refine ⟨?_, Below.refl _ _⟩
  cases l with
  | nil => rfl
  | cons c r =>
    by_cases h : c = 45
    · subst h; simp [cutM, Lib.trimPrefix, Lib.hasPrefix, str]
    · have h' : ¬ 45 = c := fun e => h e.symm
      simp [cutM, Lib.trimPrefix, Lib.hasPrefix, List.isPrefixOf, str, h, h']
theorem strim_any (l : List UInt8) (w : World) (hl : l.length ≤ 1000000) : Calls Tryz.prog 73 #[.string (str l), .string ⟨#[48]⟩] w fun e w' => e = .returned (.string (str (Lib.trimB l 48))) ∧ Below w.heap.size w w' := by
  refine (Tryz.strings_Trim_one (str l) 48 (by decide) w (by rw [str_size]; omega)).mono fun e w' h => ?_
  obtain ⟨rfl, h⟩ := h
  refine ⟨rfl, ?_⟩
  rcases h with rfl | rfl
  · exact Below.refl _ _
  · exact (Below.refl _ _).drew'
/-- The digits behind a point, as many as the scale has. -/
theorem dfit_any (l : List UInt8) (k : Nat) (w : World) (hl : l.length ≤ 1000000) (hk : k ≤ 9) : Calls Tryz.prog 42 #[.string (str l), .int .i64 k] w fun e w' => e = .returned (.tuple #[.string (str (fitK l k).1), .bool (fitK l k).2]) ∧ Below w.heap.size w w' := by
  have hz : (str l).size = l.length := str_size l
  obtain ⟨m, hm⟩ : ∃ m, min k l.length = m := ⟨_, rfl⟩
  have hmi : min (k : Int) (l.length : Int) = (m : Int) := by omega
  have hx1 : (str l).extract 0 m = str (l.take m) := by rw [str_extract]; simp
  have hz2 : (str (l.take m)).size = m := by rw [str_size, List.length_take]; omega
  have hx2 : (str l).extract m l.length = str (l.drop m) := by rw [str_extract, List.take_of_length_le (by simp)]
  have hml : (m : Int) ≤ (l.length : Int) := by omega
  have hml' : m ≤ l.length := by omega
  have hdl : (l.drop m).length ≤ 1000000 := by simp; omega
  have hkm : ((k : Int) - (m : Int)).toNat = k - l.length := by omega
  have hkm9 : (k : Int) - (m : Int) ≤ 1000000 := by omega
  have htk : l.take m = l.take k := by rw [← hm]; exact (List.take_eq_take_iff.2 (by omega))
  have hdk : allZ (l.drop m) = allZ (l.drop k) := by
    rcases Nat.le_total k l.length with h | h
    · rw [show m = k by omega]
    · rw [List.drop_of_length_le (by omega), List.drop_of_length_le h]
  have hs2 : (str (List.replicate (k - m) (48 : UInt8))).size = k - m := by rw [str_size, List.length_replicate]
  have hs3 : ¬ (9223372036854775807 < m + (k - m)) := by omega
  have happ := str_append (l.take m) (List.replicate (k - m) 48)
  have hkm2 : k - m = k - l.length := by omega
  have HT := Lib.hid htk; have HD := Lib.hid hdk; have HKM := Lib.hid hkm2
  clear hm htk hdk hkm hkm2
  by_cases hall : allZ (l.drop k) = true
  · have htr : (str (Lib.trimB (l.drop m) 48)).toList.isEmpty = true := by rw [str_list, (trim_nil _).2 (by rw [HD.out]; exact hall)]; rfl
    have HALL := Lib.hid hall; clear hall
    go_enter Tryz.func42, Tryz.ntmps42
    go_wp2_with (first
      | (go_at_call 73; refine (strim_any _ _ hdl).mono ?_; rintro e w1 ⟨rfl, hb1⟩)
      | (go_at_call 74; refine (zeros_any _ _ hkm9).mono ?_; rintro e w2 ⟨rfl, hb2⟩))
    go_ret2
    exact ⟨by unfold fitK; rw [if_pos HALL.out, ← HT.out, ← HKM.out]; rfl, hb1.trans (hb2.mono hb1.size)⟩
  · have htr : (str (Lib.trimB (l.drop m) 48)).toList.isEmpty = false := by
      rw [str_list]
      cases h : Lib.trimB (l.drop m) 48 with
      | nil => exact absurd (by rw [← HD.out]; exact (trim_nil _).1 h) hall
      | cons => rfl
    have HALL := Lib.hid hall; clear hall
    go_enter Tryz.func42, Tryz.ntmps42
    go_wp2_with (first
      | (go_at_call 73; refine (strim_any _ _ hdl).mono ?_; rintro e w1 ⟨rfl, hb1⟩)
      | (go_at_call 74; refine (zeros_any _ _ hkm9).mono ?_; rintro e w2 ⟨rfl, hb2⟩))
    go_ret2
    exact ⟨by unfold fitK; rw [if_neg HALL.out]; rfl, hb1⟩
end Go.Proofs.YtbeohedkeklaiaaGreatDoor
