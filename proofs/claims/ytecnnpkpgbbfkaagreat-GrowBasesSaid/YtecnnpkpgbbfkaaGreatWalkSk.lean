/- walk's Find. -/
import Derived.Test.YtecnnpkpgbbfkaaGreatPartq
import Derived.Test.YtecnnpkpgbbfkaaGreatPartp
import Derived.WalkMore
namespace Go.MagM
open Go.RowKit
/-- Where one goes on from a triangle. -/
def goesT (P : List (Int × Int)) (T0 T : TriM) (p : Int × Int) : Option Nat := firstK (fun i => decide (sideT P T i p < 0) && leavesW P T0 T p i)
/-- The way: the place, how many were looked at. -/
def findF (P : List (Int × Int)) (S : List TriM) (T0 : TriM) (p : Int × Int) : Nat → Nat → Int → (Int × Int × Int × Int) × Int
 | 0, n, _ => (lookM P S p, (n : Int))
 | k + 1, n, t => match getT S t with
  | none => ((3, t, 0, 0), ((n + 1 : Nat) : Int))
  | some T => if realT T = true then (match goesT P T0 T p with
    | some i => findF P S T0 p k (n + 1) (T.n i)
    | none => (withinT P T t.toNat p, ((n + 1 : Nat) : Int)))
   else ((3, t, 0, 0), ((n + 1 : Nat) : Int))
theorem realM_some {S : List TriM} {t : Int} (h : realM S t = true) : ∃ T, getT S t = some T ∧ realT T = true := by
 unfold realM at h
 cases hg : getT S t with
 | none => rw [hg] at h; cases h
 | some T => rw [hg] at h; exact ⟨T, rfl, h⟩
theorem find_out {P : List (Int × Int)} {S : List TriM} {T0 : TriM} {p : Int × Int} {k n : Nat} {t : Int} (h : realM S t = false) : findF P S T0 p (k + 1) n t = ((3, t, 0, 0), ((n + 1 : Nat) : Int)) := by
 unfold realM at h
 rw [findF]
 cases hg : getT S t with
 | none => rfl
 | some T =>
  rw [hg] at h
  simp only [] at h ⊢
  rw [h]; rfl
theorem find_go {P : List (Int × Int)} {S : List TriM} {T0 T : TriM} {p : Int × Int} {k n i : Nat} {t : Int} (h : getT S t = some T) (hr : realT T = true) (hg : goesT P T0 T p = some i) : findF P S T0 p (k + 1) n t = findF P S T0 p k (n + 1) (T.n i) := by
 rw [findF, h]
 simp only []
 rw [hr, if_pos rfl, hg]
theorem find_in {P : List (Int × Int)} {S : List TriM} {T0 T : TriM} {p : Int × Int} {k n : Nat} {t : Int} (h : getT S t = some T) (hr : realT T = true) (hg : goesT P T0 T p = none) : findF P S T0 p (k + 1) n t = (withinT P T t.toNat p, ((n + 1 : Nat) : Int)) := by
 rw [findF, h]
 simp only []
 rw [hr, if_pos rfl, hg]
end Go.MagM
namespace Go.Proofs.YtecnnpkpgbbfkaaGreat
open Go.RowKit Go.MagM
set_option maxRecDepth 100000 in
set_option maxHeartbeats 16000000 in
theorem WFind_any {mb pb pc : Nat} {ta : Option Addr} {tc : Nat} {P : List (Int × Int)} {S : List TriM} (t0 : Nat) (T0 : TriM) (p : Int × Int) (fr bud : Int) (w : World) (h : MeshR w mb pb pc ta tc P S) (hin : MeshIn (fun b => b < w.heap.size) mb pb ta) (hP : InPs P) (hp : InP p.1 ∧ InP p.2) (hl : LookIn P S) (hb : beginM S fr = (t0 : Int)) (h0 : S[t0]? = some T0) (hr0 : realT T0 = true) :
  Calls Tryz.prog 67 #[.pointer (some ⟨mb, 0, none⟩), .agg #[.int .i64 p.1, .int .i64 p.2], .int .i64 fr, .int .i64 bud] w fun e w' => e = .returned (.tuple #[placeV (findF P S T0 p (min bud S.length).toNat 0 t0).1, .int .i64 (findF P S T0 p (min bud S.length).toNat 0 t0).2]) ∧ Below w.heap.size w w' := by
 obtain ⟨w1, hw1, pp, hb1, hs1⟩ := new_box w _ rfl [.int .i64 p.1, .int .i64 p.2] 33
 obtain ⟨lb, hlb⟩ : ∃ lb, w1.heap.size = lb := ⟨_, rfl⟩
 obtain ⟨w2, hw2, pl, hb2, hs2⟩ := new_box w1 _ rfl [.int .i64 0, .int .i64 0, .int .i64 0, .int .i64 0] 113
 rw [hlb] at pl
 have hlw : w.heap.size ≤ lb := by rw [← hlb]; exact hb1.size
 have hB2 : Below w.heap.size w w2 := hb1.trans (hb2.mono hb1.size)
 have hsz2 : w.heap.size ≤ w2.heap.size := hB2.size
 have hbe := begin_any fr w2 (h.below hB2) ⟨Nat.lt_of_lt_of_le hin.m hsz2, Nat.lt_of_lt_of_le hin.p hsz2, fun b hb => Nat.lt_of_lt_of_le (hin.t b hb) hsz2⟩
 rw [hb] at hbe
 have pp2 := pp.below hb2
 have d0 := pp2.c 0 _ rfl; have d1 := pp2.c 1 _ rfl
 obtain ⟨len, hlen⟩ : ∃ len, S.length = len := ⟨_, rfl⟩
 have hsh := h.short.2
 rw [hlen] at hsh ⊢
 have hho : ∀ (x : Int) (wr : World), Below w.heap.size w wr → Calls Tryz.prog 54 #[.pointer (some ⟨mb, 0, none⟩), .int .i64 x] wr fun e w' => e = .returned (.bool (realM S x)) ∧ Drew wr w' :=
  fun x wr hb => Real_any x wr (h.below hb)
 have hsi : ∀ (t i : Nat) (T : TriM) (wr : World), S[t]? = some T → realT T = true → i < 3 → Below w.heap.size w wr → Calls Tryz.prog 110 #[.pointer (some ⟨mb, 0, none⟩), .int .i64 (t : Int), .int .i64 (i : Int), .agg #[.int .i64 p.1, .int .i64 p.2]] wr fun e w' => e = .returned (.int .i64 (sideT P T i p)) ∧ Below wr.heap.size wr w' :=
  fun t i T wr hT hr hi hb => wside_any t i T p _ wr (h.below hb) hP hp hT hi ((hl t T hT).1 hr _ (Nat.mod_lt _ (by omega))) ((hl t T hT).1 hr _ (Nat.mod_lt _ (by omega))) rfl
 have hle : ∀ (t i : Nat) (T : TriM) (wr : World), S[t]? = some T → realT T = true → i < 3 → Below w.heap.size w wr → Calls Tryz.prog 111 #[.agg #[.pointer (some ⟨mb, 0, none⟩), .int .i64 (t0 : Int), .int .i64 p.1, .int .i64 p.2], .int .i64 (t : Int), .int .i64 (i : Int)] wr fun e w' => e = .returned (.bool (leavesW P T0 T p i)) ∧ Below wr.heap.size wr w' :=
  fun t i T wr hT hr hi hb => leaves_any t0 t i T0 T p wr (h.below hb) hP hp h0 hT hi ((hl t0 T0 h0).1 hr0) ((hl t T hT).1 hr)
 have hwi : ∀ (t : Nat) (T : TriM) (wr : World), S[t]? = some T → realT T = true → Below w.heap.size w wr → Calls Tryz.prog 112 #[.pointer (some ⟨mb, 0, none⟩), .int .i64 (t : Int), .agg #[.int .i64 p.1, .int .i64 p.2]] wr fun e w' => e = .returned (placeV (withinT P T t p)) ∧ Below wr.heap.size wr w' :=
  fun t T wr hT hr hb => wwithin_any t T p wr (h.below hb) hP hp hT ((hl t T hT).1 hr)
 have hlo : ∀ (wr : World), Below w.heap.size w wr → Calls Tryz.prog 113 #[.pointer (some ⟨mb, 0, none⟩), .agg #[.int .i64 p.1, .int .i64 p.2]] wr fun e w' => e = .returned (placeV (lookM P S p)) ∧ Below wr.heap.size wr w' :=
  fun wr hb => Look_any p wr (h.below hb) hP hp hl
 have htr : ∀ (t : Nat) (T : TriM) (i : Nat) (wr : World), S[t]? = some T → i < 3 → Below w.heap.size w wr → ∃ tb, ta = some ⟨tb, 0, none⟩ ∧ t < len ∧ wr.cell? ⟨mb, 1, none⟩ = some (.slice (some ⟨tb, 0, none⟩) len tc) ∧ wr.cell? ⟨tb, t * 9 + 3 + i, none⟩ = some (.int .i64 (T.n i)) := by
  intro t T i wr hT hi hb
  have hm := h.below hb
  obtain ⟨tb, e, -, ht⟩ := hm.tris.get hT
  have e1 := hm.box.c 1 _ rfl
  rw [hlen, e] at e1
  refine ⟨tb, e, by have := (List.getElem?_eq_some_iff.1 hT).1; omega, e1, ?_⟩
  obtain rfl | rfl | rfl : i = 0 ∨ i = 1 ∨ i = 2 := by omega
  ·exact ht.c3
  ·exact ht.c4
  ·exact ht.c5
 obtain ⟨q, hq⟩ : ∃ q, findF P S T0 p (min bud (len : Int)).toNat 0 t0 = q := ⟨_, rfl⟩
 rw [hq]
 have HQ := Lib.hid hq; have HBE := Lib.hid hbe; have HO := Lib.hid hho; have SI := Lib.hid hsi; have LE := Lib.hid hle; have WI := Lib.hid hwi; have LO := Lib.hid hlo; have TR := Lib.hid htr; have HLEN := Lib.hid hlen
 have PL := Lib.hid pl; have PP := Lib.hid pp2; have HB2 := Lib.hid hB2; have HLW := Lib.hid hlw; have HM := Lib.hid h
 clear h hin hP hp hl hb h0 hr0 pp hb1 hs1 pl hb2 hs2 hlw hB2 hsz2 hbe pp2 hho hsi hle hwi hlo htr hq hlen
 go_enter Tryz.func67, Tryz.ntmps67
 go_wp2
 go_step3
 go_wp2_with fail
 refine HBE.out.mono ?_
 rintro e w3 ⟨rfl, hb3⟩
 have hb03 := HB2.out.trans (hb3.mono HB2.out.size)
 have pl3 := PL.out.below hb3
 have e0 := (PP.out.below hb3).c 0 _ rfl; have e1 := (PP.out.below hb3).c 1 _ rfl
 obtain ⟨wb, hwb⟩ : ∃ wb, w3.heap.size = wb := ⟨_, rfl⟩
 obtain ⟨w4, hw4, pw, hb4, hs4⟩ := new_box w3 _ rfl [.pointer (some ⟨mb, 0, none⟩), .int .i64 (t0 : Int), .int .i64 p.1, .int .i64 p.2] 167
 rw [hwb] at pw
 have hb04 := hb03.trans (hb4.mono hb03.size)
 have pl4 := pl3.below hb4
 have pp4 := (PP.out.below hb3).below hb4
 have m1 := (HM.out.below hb04).box.c 1 _ rfl
 rw [HLEN.out] at m1
 have HB4 := Lib.hid hb04; have PP4 := Lib.hid pp4; have PW := Lib.hid pw
 clear PL PP
 have PL := Lib.hid pl4
 clear HB2 HBE hb3 hb03 pl3 hb4 hs4 hb04 pl4 pp4 pw HM d0 d1
 obtain ⟨mv, hmv⟩ : ∃ mv, min bud (len : Int) = mv := ⟨_, rfl⟩
 have hmx : mv ≤ 1000000 := by omega
 have hq' := HQ.out
 rw [hmv] at hq'
 have HQ2 := Lib.hid hq'; have HMX := Lib.hid hmx
 clear hq' hmx HQ
 rcases Int.lt_trichotomy (len : Int) bud with hcm | hcm | hcm
 ·have hmv' : mv = (len : Int) := by omega
  subst hmv'
  clear hmv
  go_wp2
  clear e0 e1 m1
  go_step3
  go_wp2
  go_loopw [10, 12, 14, 41] (fun tv nv _ _ wr => ∃ (n : Nat) (t : Int), n ≤ ((len : Int)).toNat ∧ tv = .int .i64 t ∧ nv = .int .i64 (n : Int) ∧ findF P S T0 p (((len : Int)).toNat - n) n t = q ∧ Below w4.heap.size w4 wr) (fun _ nv _ _ _ => ((len : Int)).toNat - (intOf nv).toNat)
  case atStart => exact ⟨0, t0, by omega, rfl, rfl, HQ2.out, Below.refl _ _⟩
  case round =>
   obtain ⟨n, t, hn, rfl, rfl, hf, hbw⟩ := hrel
   have HN := Lib.hid hn; have HBW := Lib.hid hbw
   have HB0 := Lib.hid (HB4.out.trans (hbw.mono HB4.out.size))
   have pp_ := PP4.out.below hbw
   have e0 := pp_.c 0 _ rfl; have e1 := pp_.c 1 _ rfl
   have hmx := HMX.out
   by_cases hlt : (n : Int) < (len : Int)
   ·have hyd : decide ((n : Int) < (len : Int)) = true := decide_eq_true hlt
    have hwn : IntKind.i64.wrap ((n : Int) + 1) = (n : Int) + 1 := by rw [IntKind.wrap_i64]; omega
    obtain ⟨k, hk⟩ : ∃ k, ((len : Int)).toNat - n = k + 1 := ⟨((len : Int)).toNat - n - 1, by omega⟩
    have hk1 : ((len : Int)).toNat - (n + 1) = k := by omega
    have hn1 : n + 1 ≤ ((len : Int)).toNat := by omega
    rw [hk] at hf
    have HF := Lib.hid hf; have HK1 := Lib.hid hk1; have HN1 := Lib.hid hn1
    clear hn hbw pp_ hk hk1 hn1 hf hmx
    have ho := HO.out t wr HB0.out
    cases hr : realM S t with
    | false =>
     rw [hr] at ho
     have HHO := Lib.hid ho; have HR := Lib.hid hr
     clear ho hr e0 e1
     go_wp2_with fail
     refine HHO.out.mono ?_
     rintro e w5 ⟨rfl, hd⟩
     have HB5 := Lib.hid (HBW.out.trans (hd.below.mono HBW.out.size))
     clear hd
     have hbq := HB5.out
     have plq := PL.out.below hbq
     obtain ⟨wz, hwz⟩ : ∃ wz, setAll w5 lb 0 [.int .i64 3, .int .i64 t, .int .i64 0, .int .i64 0] = wz := ⟨_, rfl⟩
     have pz : Box wz lb [.int .i64 3, .int .i64 t, .int .i64 0, .int .i64 0] := by rw [← hwz]; exact plq.setAll [.int .i64 3, .int .i64 t, .int .i64 0, .int .i64 0] rfl
     have hbz : Below w.heap.size w wz := by rw [← hwz]; exact below_setAll (HB4.out.trans (hbq.mono HB4.out.size)) HLW.out _
     have z0 := pz.c 0 _ rfl; have z1 := pz.c 1 _ rfl; have z2 := pz.c 2 _ rfl; have z3 := pz.c 3 _ rfl
     have o0 := plq.c 0 _ rfl; have o1 := plq.c 1 _ rfl; have o2 := plq.c 2 _ rfl; have o3 := plq.c 3 _ rfl
     have g0 := plq.f 0 _ rfl; have g1 := plq.f 1 _ rfl; have g2 := plq.f 2 _ rfl; have g3 := plq.f 3 _ rfl
     have HWZ := Lib.hid hwz; have HBZ := Lib.hid hbz; have HZ0 := Lib.hid z0; have HZ1 := Lib.hid z1; have HZ2 := Lib.hid z2; have HZ3 := Lib.hid z3
     clear hbq plq hwz pz hbz z0 z1 z2 z3
     go_wp2
     clear o0 o1 o2 o3 g0 g1 g2 g3
     have z0 := HZ0.out; have z1 := HZ1.out; have z2 := HZ2.out; have z3 := HZ3.out
     have hwz := HWZ.out
     simp only [setAll] at hwz
     rw [hwz]
     (try simp only [Exit.inBlock, Exit.then])
     rw [Exit.noGoto_ret]
     refine bodyPost_ret (v := .tuple #[.agg #[.int .i64 3, .int .i64 t, .int .i64 0, .int .i64 0], .int .i64 ((n : Int) + 1)]) ?_ rfl ?_
     ·simp [results, Tryz.results67, go_sem, z0, z1, z2, z3]
     ·exact ⟨by rw [← HF.out, find_out HR.out]; rfl, HBZ.out⟩
    | true =>
     rw [hr] at ho
     obtain ⟨T, hg, hrt⟩ := realM_some hr
     obtain ⟨h0, h1, hT⟩ := getT_some hg
     obtain ⟨tn, rfl⟩ : ∃ tn : Nat, t = (tn : Int) := ⟨t.toNat, by omega⟩
     rw [Int.toNat_natCast] at hT
     have HHO := Lib.hid ho; have HG := Lib.hid hg; have HRT := Lib.hid hrt; have HT := Lib.hid hT
     clear ho hr hg hrt h0 h1 hT e0 e1
     go_wp2_with fail
     refine HHO.out.mono ?_
     rintro e w5 ⟨rfl, hd⟩
     have HB5 := Lib.hid (HBW.out.trans (hd.below.mono HBW.out.size))
     clear hd
     obtain ⟨wo, hwo⟩ : ∃ wo, wo = wr := ⟨_, rfl⟩
     have HWO := Lib.hid hwo
     clear hwo
     go_wp2
     go_loopw [10, 14, 41] (fun tv _ iv wr => ∃ i : Nat, i ≤ 3 ∧ iv = .int .i64 (i : Int) ∧ tv = .int .i64 (tn : Int) ∧ Below w4.heap.size w4 wr ∧ ∀ j, j < i → (decide (sideT P T j p < 0) && leavesW P T0 T p j) = false) (fun _ _ iv _ => 3 - (intOf iv).toNat)
     case atStart => exact ⟨0, by omega, rfl, rfl, HB5.out, fun j hj => absurd hj (by omega)⟩
     case round =>
      obtain ⟨i, hi, rfl, rfl, hbw, hall⟩ := hrel
      have HBR := Lib.hid hbw; have HALL := Lib.hid hall
      have HBR0 := Lib.hid (HB4.out.trans (hbw.mono HB4.out.size))
      have pp_ := PP4.out.below hbw
      have e0 := pp_.c 0 _ rfl; have e1 := pp_.c 1 _ rfl
      clear hbw hall pp_
      by_cases hl3 : i < 3
      ·have hyi : decide ((i : Int) < 3) = true := decide_eq_true (by omega)
       have hs := SI.out tn i T wr HT.out HRT.out hl3 HBR0.out
       obtain ⟨sd, hsd⟩ : ∃ sd, sideT P T i p = sd := ⟨_, rfl⟩
       rw [hsd] at hs
       have HS := Lib.hid hs; have HSD := Lib.hid hsd
       clear hs hsd
       by_cases hneg : sd < 0
       ·have hyn : decide (sd < 0) = true := decide_eq_true hneg
        go_wp2_with fail
        refine HS.out.mono ?_
        rintro e w6 ⟨rfl, hb6⟩
        have hb06 := HBR.out.trans (hb6.mono HBR.out.size)
        have hle := LE.out tn i T w6 HT.out HRT.out hl3 (HB4.out.trans (hb06.mono HB4.out.size))
        obtain ⟨lv, hlv⟩ : ∃ lv, leavesW P T0 T p i = lv := ⟨_, rfl⟩
        rw [hlv] at hle
        have pw_ := PW.out.below hb06
        have x0 := pw_.c 0 _ rfl; have x1 := pw_.c 1 _ rfl; have x2 := pw_.c 2 _ rfl; have x3 := pw_.c 3 _ rfl
        have HLE := Lib.hid hle; have HLV := Lib.hid hlv; have HB6 := Lib.hid hb06
        clear hb6 hb06 hle hlv pw_ e0 e1
        go_wp2_with fail
        refine HLE.out.mono ?_
        rintro e w7 ⟨rfl, hb7⟩
        have hb07 := HB6.out.trans (hb7.mono HB6.out.size)
        have HB7 := Lib.hid hb07
        clear hb7 x0 x1 x2 x3
        cases lv with
        | true =>
         obtain ⟨tb, hta, htl, m1, nc⟩ := TR.out tn T i w7 HT.out hl3 (HB4.out.trans (hb07.mono HB4.out.size))
         have i1 : (0 : Int) ≤ (tn : Int) := by omega
         have i2 : (tn : Int) < (len : Int) := by omega
         have i3 : (0 : Int) ≤ (i : Int) := by omega
         have i4 : (i : Int) < 3 := by omega
         have hgo : goesT P T0 T p = some i := firstK_at hl3 (by rw [HSD.out, hyn, HLV.out]; rfl) HALL.out
         have HGO := Lib.hid hgo
         clear hgo hta htl hb07
         go_wp2
         clear m1 nc
         refine ⟨⟨n + 1, T.n i, HN1.out, rfl, rfl, ?_, HB7.out⟩, ?_⟩
         ·rw [HK1.out, ← find_go HG.out HRT.out HGO.out]; exact HF.out
         ·have := HN1.out; simp [intOf]; omega
        | false =>
         clear hb07
         go_wp2
         go_roundw
         case rel =>
          refine ⟨i + 1, by omega, by go_num, rfl, HB7.out, fun j hj => ?_⟩
          rcases Nat.lt_or_ge j i with g | g
          ·exact HALL.out j g
          ·obtain rfl : j = i := by omega
           rw [HLV.out, Bool.and_false]
         case measure => simp [intOf]; omega
       ·have hyn : decide (sd < 0) = false := decide_eq_false hneg
        go_wp2_with fail
        refine HS.out.mono ?_
        rintro e w6 ⟨rfl, hb6⟩
        have HB6 := Lib.hid (HBR.out.trans (hb6.mono HBR.out.size))
        clear hb6 e0 e1
        go_wp2
        go_roundw
        case rel =>
         refine ⟨i + 1, by omega, by go_num, rfl, HB6.out, fun j hj => ?_⟩
         rcases Nat.lt_or_ge j i with g | g
         ·exact HALL.out j g
         ·obtain rfl : j = i := by omega
          rw [HSD.out, hyn, Bool.false_and]
        case measure => simp [intOf]; omega
      ·have hyi : decide ((i : Int) < 3) = false := decide_eq_false (by omega)
       have hi3 : i = 3 := by omega
       have hgo : goesT P T0 T p = none := firstK_none (fun j hj => HALL.out j (by omega))
       have hw := WI.out tn T wr HT.out HRT.out HBR0.out
       obtain ⟨⟨y0, y1, y2, y3⟩, hy⟩ : ∃ y, withinT P T tn p = y := ⟨_, rfl⟩
       rw [hy] at hw
       unfold placeV at hw
       simp only [] at hw
       have HWI := Lib.hid hw; have HY := Lib.hid hy; have HGO := Lib.hid hgo
       clear hi3 hgo hw hy
       go_wp2_with fail
       refine HWI.out.mono ?_
       rintro e w6 ⟨rfl, hb6⟩
       have HB6 := Lib.hid (HBR.out.trans (hb6.mono HBR.out.size))
       clear hb6 e0 e1
       have hbq := HB6.out
       have plq := PL.out.below hbq
       obtain ⟨wz, hwz⟩ : ∃ wz, setAll w6 lb 0 [.int .i64 y0, .int .i64 y1, .int .i64 y2, .int .i64 y3] = wz := ⟨_, rfl⟩
       have pz : Box wz lb [.int .i64 y0, .int .i64 y1, .int .i64 y2, .int .i64 y3] := by rw [← hwz]; exact plq.setAll [.int .i64 y0, .int .i64 y1, .int .i64 y2, .int .i64 y3] rfl
       have hbz : Below w.heap.size w wz := by rw [← hwz]; exact below_setAll (HB4.out.trans (hbq.mono HB4.out.size)) HLW.out _
       have z0 := pz.c 0 _ rfl; have z1 := pz.c 1 _ rfl; have z2 := pz.c 2 _ rfl; have z3 := pz.c 3 _ rfl
       have o0 := plq.c 0 _ rfl; have o1 := plq.c 1 _ rfl; have o2 := plq.c 2 _ rfl; have o3 := plq.c 3 _ rfl
       have g0 := plq.f 0 _ rfl; have g1 := plq.f 1 _ rfl; have g2 := plq.f 2 _ rfl; have g3 := plq.f 3 _ rfl
       have HWZ := Lib.hid hwz; have HBZ := Lib.hid hbz; have HZ0 := Lib.hid z0; have HZ1 := Lib.hid z1; have HZ2 := Lib.hid z2; have HZ3 := Lib.hid z3
       clear hbq plq hwz pz hbz z0 z1 z2 z3
       go_wp2
       clear o0 o1 o2 o3 g0 g1 g2 g3
       have z0 := HZ0.out; have z1 := HZ1.out; have z2 := HZ2.out; have z3 := HZ3.out
       have hwz := HWZ.out
       simp only [setAll] at hwz
       rw [hwz]
       (try simp only [Exit.inBlock, Exit.then])
       rw [Exit.noGoto_ret]
       refine bodyPost_ret (v := .tuple #[.agg #[.int .i64 y0, .int .i64 y1, .int .i64 y2, .int .i64 y3], .int .i64 ((n : Int) + 1)]) ?_ rfl ?_
       ·simp [results, Tryz.results67, go_sem, z0, z1, z2, z3]
       ·exact ⟨by rw [← HF.out, find_in HG.out HRT.out HGO.out, Int.toNat_natCast, HY.out]; rfl, HBZ.out⟩
   ·have hyd : decide ((n : Int) < (len : Int)) = false := decide_eq_false hlt
    have hk0 : ((len : Int)).toNat - n = 0 := by omega
    rw [hk0] at hf
    have hw := LO.out wr HB0.out
    obtain ⟨⟨y0, y1, y2, y3⟩, hy⟩ : ∃ y, lookM P S p = y := ⟨_, rfl⟩
    rw [hy] at hw
    unfold placeV at hw
    simp only [] at hw
    have HWI := Lib.hid hw; have HY := Lib.hid hy; have HF := Lib.hid hf
    clear hn hbw pp_ hf hmx hk0 hw hy
    go_wp2_with fail
    refine HWI.out.mono ?_
    rintro e w6 ⟨rfl, hb6⟩
    have HB6 := Lib.hid (HBW.out.trans (hb6.mono HBW.out.size))
    clear hb6 e0 e1
    have hbq := HB6.out
    have plq := PL.out.below hbq
    obtain ⟨wz, hwz⟩ : ∃ wz, setAll w6 lb 0 [.int .i64 y0, .int .i64 y1, .int .i64 y2, .int .i64 y3] = wz := ⟨_, rfl⟩
    have pz : Box wz lb [.int .i64 y0, .int .i64 y1, .int .i64 y2, .int .i64 y3] := by rw [← hwz]; exact plq.setAll [.int .i64 y0, .int .i64 y1, .int .i64 y2, .int .i64 y3] rfl
    have hbz : Below w.heap.size w wz := by rw [← hwz]; exact below_setAll (HB4.out.trans (hbq.mono HB4.out.size)) HLW.out _
    have z0 := pz.c 0 _ rfl; have z1 := pz.c 1 _ rfl; have z2 := pz.c 2 _ rfl; have z3 := pz.c 3 _ rfl
    have o0 := plq.c 0 _ rfl; have o1 := plq.c 1 _ rfl; have o2 := plq.c 2 _ rfl; have o3 := plq.c 3 _ rfl
    have g0 := plq.f 0 _ rfl; have g1 := plq.f 1 _ rfl; have g2 := plq.f 2 _ rfl; have g3 := plq.f 3 _ rfl
    have HWZ := Lib.hid hwz; have HBZ := Lib.hid hbz; have HZ0 := Lib.hid z0; have HZ1 := Lib.hid z1; have HZ2 := Lib.hid z2; have HZ3 := Lib.hid z3
    clear hbq plq hwz pz hbz z0 z1 z2 z3
    go_wp2
    clear o0 o1 o2 o3 g0 g1 g2 g3
    have z0 := HZ0.out; have z1 := HZ1.out; have z2 := HZ2.out; have z3 := HZ3.out
    have hwz := HWZ.out
    simp only [setAll] at hwz
    rw [hwz]
    (try simp only [Exit.inBlock, Exit.then])
    rw [Exit.noGoto_ret]
    refine bodyPost_ret (v := .tuple #[.agg #[.int .i64 y0, .int .i64 y1, .int .i64 y2, .int .i64 y3], .int .i64 (n : Int)]) ?_ rfl ?_
    ·simp [results, Tryz.results67, go_sem, z0, z1, z2, z3]
    ·exact ⟨by rw [← HF.out, findF, HY.out]; rfl, HBZ.out⟩
 ·have hmv' : mv = (len : Int) := by omega
  subst hmv'
  clear hmv
  subst hcm
  go_wp2
  clear e0 e1 m1
  go_step3
  go_wp2
  go_loopw [10, 12, 14, 41] (fun tv nv _ _ wr => ∃ (n : Nat) (t : Int), n ≤ ((len : Int)).toNat ∧ tv = .int .i64 t ∧ nv = .int .i64 (n : Int) ∧ findF P S T0 p (((len : Int)).toNat - n) n t = q ∧ Below w4.heap.size w4 wr) (fun _ nv _ _ _ => ((len : Int)).toNat - (intOf nv).toNat)
  case atStart => exact ⟨0, t0, by omega, rfl, rfl, HQ2.out, Below.refl _ _⟩
  case round =>
   obtain ⟨n, t, hn, rfl, rfl, hf, hbw⟩ := hrel
   have HN := Lib.hid hn; have HBW := Lib.hid hbw
   have HB0 := Lib.hid (HB4.out.trans (hbw.mono HB4.out.size))
   have pp_ := PP4.out.below hbw
   have e0 := pp_.c 0 _ rfl; have e1 := pp_.c 1 _ rfl
   have hmx := HMX.out
   by_cases hlt : (n : Int) < (len : Int)
   ·have hyd : decide ((n : Int) < (len : Int)) = true := decide_eq_true hlt
    have hwn : IntKind.i64.wrap ((n : Int) + 1) = (n : Int) + 1 := by rw [IntKind.wrap_i64]; omega
    obtain ⟨k, hk⟩ : ∃ k, ((len : Int)).toNat - n = k + 1 := ⟨((len : Int)).toNat - n - 1, by omega⟩
    have hk1 : ((len : Int)).toNat - (n + 1) = k := by omega
    have hn1 : n + 1 ≤ ((len : Int)).toNat := by omega
    rw [hk] at hf
    have HF := Lib.hid hf; have HK1 := Lib.hid hk1; have HN1 := Lib.hid hn1
    clear hn hbw pp_ hk hk1 hn1 hf hmx
    have ho := HO.out t wr HB0.out
    cases hr : realM S t with
    | false =>
     rw [hr] at ho
     have HHO := Lib.hid ho; have HR := Lib.hid hr
     clear ho hr e0 e1
     go_wp2_with fail
     refine HHO.out.mono ?_
     rintro e w5 ⟨rfl, hd⟩
     have HB5 := Lib.hid (HBW.out.trans (hd.below.mono HBW.out.size))
     clear hd
     have hbq := HB5.out
     have plq := PL.out.below hbq
     obtain ⟨wz, hwz⟩ : ∃ wz, setAll w5 lb 0 [.int .i64 3, .int .i64 t, .int .i64 0, .int .i64 0] = wz := ⟨_, rfl⟩
     have pz : Box wz lb [.int .i64 3, .int .i64 t, .int .i64 0, .int .i64 0] := by rw [← hwz]; exact plq.setAll [.int .i64 3, .int .i64 t, .int .i64 0, .int .i64 0] rfl
     have hbz : Below w.heap.size w wz := by rw [← hwz]; exact below_setAll (HB4.out.trans (hbq.mono HB4.out.size)) HLW.out _
     have z0 := pz.c 0 _ rfl; have z1 := pz.c 1 _ rfl; have z2 := pz.c 2 _ rfl; have z3 := pz.c 3 _ rfl
     have o0 := plq.c 0 _ rfl; have o1 := plq.c 1 _ rfl; have o2 := plq.c 2 _ rfl; have o3 := plq.c 3 _ rfl
     have g0 := plq.f 0 _ rfl; have g1 := plq.f 1 _ rfl; have g2 := plq.f 2 _ rfl; have g3 := plq.f 3 _ rfl
     have HWZ := Lib.hid hwz; have HBZ := Lib.hid hbz; have HZ0 := Lib.hid z0; have HZ1 := Lib.hid z1; have HZ2 := Lib.hid z2; have HZ3 := Lib.hid z3
     clear hbq plq hwz pz hbz z0 z1 z2 z3
     go_wp2
     clear o0 o1 o2 o3 g0 g1 g2 g3
     have z0 := HZ0.out; have z1 := HZ1.out; have z2 := HZ2.out; have z3 := HZ3.out
     have hwz := HWZ.out
     simp only [setAll] at hwz
     rw [hwz]
     (try simp only [Exit.inBlock, Exit.then])
     rw [Exit.noGoto_ret]
     refine bodyPost_ret (v := .tuple #[.agg #[.int .i64 3, .int .i64 t, .int .i64 0, .int .i64 0], .int .i64 ((n : Int) + 1)]) ?_ rfl ?_
     ·simp [results, Tryz.results67, go_sem, z0, z1, z2, z3]
     ·exact ⟨by rw [← HF.out, find_out HR.out]; rfl, HBZ.out⟩
    | true =>
     rw [hr] at ho
     obtain ⟨T, hg, hrt⟩ := realM_some hr
     obtain ⟨h0, h1, hT⟩ := getT_some hg
     obtain ⟨tn, rfl⟩ : ∃ tn : Nat, t = (tn : Int) := ⟨t.toNat, by omega⟩
     rw [Int.toNat_natCast] at hT
     have HHO := Lib.hid ho; have HG := Lib.hid hg; have HRT := Lib.hid hrt; have HT := Lib.hid hT
     clear ho hr hg hrt h0 h1 hT e0 e1
     go_wp2_with fail
     refine HHO.out.mono ?_
     rintro e w5 ⟨rfl, hd⟩
     have HB5 := Lib.hid (HBW.out.trans (hd.below.mono HBW.out.size))
     clear hd
     obtain ⟨wo, hwo⟩ : ∃ wo, wo = wr := ⟨_, rfl⟩
     have HWO := Lib.hid hwo
     clear hwo
     go_wp2
     go_loopw [10, 14, 41] (fun tv _ iv wr => ∃ i : Nat, i ≤ 3 ∧ iv = .int .i64 (i : Int) ∧ tv = .int .i64 (tn : Int) ∧ Below w4.heap.size w4 wr ∧ ∀ j, j < i → (decide (sideT P T j p < 0) && leavesW P T0 T p j) = false) (fun _ _ iv _ => 3 - (intOf iv).toNat)
     case atStart => exact ⟨0, by omega, rfl, rfl, HB5.out, fun j hj => absurd hj (by omega)⟩
     case round =>
      obtain ⟨i, hi, rfl, rfl, hbw, hall⟩ := hrel
      have HBR := Lib.hid hbw; have HALL := Lib.hid hall
      have HBR0 := Lib.hid (HB4.out.trans (hbw.mono HB4.out.size))
      have pp_ := PP4.out.below hbw
      have e0 := pp_.c 0 _ rfl; have e1 := pp_.c 1 _ rfl
      clear hbw hall pp_
      by_cases hl3 : i < 3
      ·have hyi : decide ((i : Int) < 3) = true := decide_eq_true (by omega)
       have hs := SI.out tn i T wr HT.out HRT.out hl3 HBR0.out
       obtain ⟨sd, hsd⟩ : ∃ sd, sideT P T i p = sd := ⟨_, rfl⟩
       rw [hsd] at hs
       have HS := Lib.hid hs; have HSD := Lib.hid hsd
       clear hs hsd
       by_cases hneg : sd < 0
       ·have hyn : decide (sd < 0) = true := decide_eq_true hneg
        go_wp2_with fail
        refine HS.out.mono ?_
        rintro e w6 ⟨rfl, hb6⟩
        have hb06 := HBR.out.trans (hb6.mono HBR.out.size)
        have hle := LE.out tn i T w6 HT.out HRT.out hl3 (HB4.out.trans (hb06.mono HB4.out.size))
        obtain ⟨lv, hlv⟩ : ∃ lv, leavesW P T0 T p i = lv := ⟨_, rfl⟩
        rw [hlv] at hle
        have pw_ := PW.out.below hb06
        have x0 := pw_.c 0 _ rfl; have x1 := pw_.c 1 _ rfl; have x2 := pw_.c 2 _ rfl; have x3 := pw_.c 3 _ rfl
        have HLE := Lib.hid hle; have HLV := Lib.hid hlv; have HB6 := Lib.hid hb06
        clear hb6 hb06 hle hlv pw_ e0 e1
        go_wp2_with fail
        refine HLE.out.mono ?_
        rintro e w7 ⟨rfl, hb7⟩
        have hb07 := HB6.out.trans (hb7.mono HB6.out.size)
        have HB7 := Lib.hid hb07
        clear hb7 x0 x1 x2 x3
        cases lv with
        | true =>
         obtain ⟨tb, hta, htl, m1, nc⟩ := TR.out tn T i w7 HT.out hl3 (HB4.out.trans (hb07.mono HB4.out.size))
         have i1 : (0 : Int) ≤ (tn : Int) := by omega
         have i2 : (tn : Int) < (len : Int) := by omega
         have i3 : (0 : Int) ≤ (i : Int) := by omega
         have i4 : (i : Int) < 3 := by omega
         have hgo : goesT P T0 T p = some i := firstK_at hl3 (by rw [HSD.out, hyn, HLV.out]; rfl) HALL.out
         have HGO := Lib.hid hgo
         clear hgo hta htl hb07
         go_wp2
         clear m1 nc
         refine ⟨⟨n + 1, T.n i, HN1.out, rfl, rfl, ?_, HB7.out⟩, ?_⟩
         ·rw [HK1.out, ← find_go HG.out HRT.out HGO.out]; exact HF.out
         ·have := HN1.out; simp [intOf]; omega
        | false =>
         clear hb07
         go_wp2
         go_roundw
         case rel =>
          refine ⟨i + 1, by omega, by go_num, rfl, HB7.out, fun j hj => ?_⟩
          rcases Nat.lt_or_ge j i with g | g
          ·exact HALL.out j g
          ·obtain rfl : j = i := by omega
           rw [HLV.out, Bool.and_false]
         case measure => simp [intOf]; omega
       ·have hyn : decide (sd < 0) = false := decide_eq_false hneg
        go_wp2_with fail
        refine HS.out.mono ?_
        rintro e w6 ⟨rfl, hb6⟩
        have HB6 := Lib.hid (HBR.out.trans (hb6.mono HBR.out.size))
        clear hb6 e0 e1
        go_wp2
        go_roundw
        case rel =>
         refine ⟨i + 1, by omega, by go_num, rfl, HB6.out, fun j hj => ?_⟩
         rcases Nat.lt_or_ge j i with g | g
         ·exact HALL.out j g
         ·obtain rfl : j = i := by omega
          rw [HSD.out, hyn, Bool.false_and]
        case measure => simp [intOf]; omega
      ·have hyi : decide ((i : Int) < 3) = false := decide_eq_false (by omega)
       have hi3 : i = 3 := by omega
       have hgo : goesT P T0 T p = none := firstK_none (fun j hj => HALL.out j (by omega))
       have hw := WI.out tn T wr HT.out HRT.out HBR0.out
       obtain ⟨⟨y0, y1, y2, y3⟩, hy⟩ : ∃ y, withinT P T tn p = y := ⟨_, rfl⟩
       rw [hy] at hw
       unfold placeV at hw
       simp only [] at hw
       have HWI := Lib.hid hw; have HY := Lib.hid hy; have HGO := Lib.hid hgo
       clear hi3 hgo hw hy
       go_wp2_with fail
       refine HWI.out.mono ?_
       rintro e w6 ⟨rfl, hb6⟩
       have HB6 := Lib.hid (HBR.out.trans (hb6.mono HBR.out.size))
       clear hb6 e0 e1
       have hbq := HB6.out
       have plq := PL.out.below hbq
       obtain ⟨wz, hwz⟩ : ∃ wz, setAll w6 lb 0 [.int .i64 y0, .int .i64 y1, .int .i64 y2, .int .i64 y3] = wz := ⟨_, rfl⟩
       have pz : Box wz lb [.int .i64 y0, .int .i64 y1, .int .i64 y2, .int .i64 y3] := by rw [← hwz]; exact plq.setAll [.int .i64 y0, .int .i64 y1, .int .i64 y2, .int .i64 y3] rfl
       have hbz : Below w.heap.size w wz := by rw [← hwz]; exact below_setAll (HB4.out.trans (hbq.mono HB4.out.size)) HLW.out _
       have z0 := pz.c 0 _ rfl; have z1 := pz.c 1 _ rfl; have z2 := pz.c 2 _ rfl; have z3 := pz.c 3 _ rfl
       have o0 := plq.c 0 _ rfl; have o1 := plq.c 1 _ rfl; have o2 := plq.c 2 _ rfl; have o3 := plq.c 3 _ rfl
       have g0 := plq.f 0 _ rfl; have g1 := plq.f 1 _ rfl; have g2 := plq.f 2 _ rfl; have g3 := plq.f 3 _ rfl
       have HWZ := Lib.hid hwz; have HBZ := Lib.hid hbz; have HZ0 := Lib.hid z0; have HZ1 := Lib.hid z1; have HZ2 := Lib.hid z2; have HZ3 := Lib.hid z3
       clear hbq plq hwz pz hbz z0 z1 z2 z3
       go_wp2
       clear o0 o1 o2 o3 g0 g1 g2 g3
       have z0 := HZ0.out; have z1 := HZ1.out; have z2 := HZ2.out; have z3 := HZ3.out
       have hwz := HWZ.out
       simp only [setAll] at hwz
       rw [hwz]
       (try simp only [Exit.inBlock, Exit.then])
       rw [Exit.noGoto_ret]
       refine bodyPost_ret (v := .tuple #[.agg #[.int .i64 y0, .int .i64 y1, .int .i64 y2, .int .i64 y3], .int .i64 ((n : Int) + 1)]) ?_ rfl ?_
       ·simp [results, Tryz.results67, go_sem, z0, z1, z2, z3]
       ·exact ⟨by rw [← HF.out, find_in HG.out HRT.out HGO.out, Int.toNat_natCast, HY.out]; rfl, HBZ.out⟩
   ·have hyd : decide ((n : Int) < (len : Int)) = false := decide_eq_false hlt
    have hk0 : ((len : Int)).toNat - n = 0 := by omega
    rw [hk0] at hf
    have hw := LO.out wr HB0.out
    obtain ⟨⟨y0, y1, y2, y3⟩, hy⟩ : ∃ y, lookM P S p = y := ⟨_, rfl⟩
    rw [hy] at hw
    unfold placeV at hw
    simp only [] at hw
    have HWI := Lib.hid hw; have HY := Lib.hid hy; have HF := Lib.hid hf
    clear hn hbw pp_ hf hmx hk0 hw hy
    go_wp2_with fail
    refine HWI.out.mono ?_
    rintro e w6 ⟨rfl, hb6⟩
    have HB6 := Lib.hid (HBW.out.trans (hb6.mono HBW.out.size))
    clear hb6 e0 e1
    have hbq := HB6.out
    have plq := PL.out.below hbq
    obtain ⟨wz, hwz⟩ : ∃ wz, setAll w6 lb 0 [.int .i64 y0, .int .i64 y1, .int .i64 y2, .int .i64 y3] = wz := ⟨_, rfl⟩
    have pz : Box wz lb [.int .i64 y0, .int .i64 y1, .int .i64 y2, .int .i64 y3] := by rw [← hwz]; exact plq.setAll [.int .i64 y0, .int .i64 y1, .int .i64 y2, .int .i64 y3] rfl
    have hbz : Below w.heap.size w wz := by rw [← hwz]; exact below_setAll (HB4.out.trans (hbq.mono HB4.out.size)) HLW.out _
    have z0 := pz.c 0 _ rfl; have z1 := pz.c 1 _ rfl; have z2 := pz.c 2 _ rfl; have z3 := pz.c 3 _ rfl
    have o0 := plq.c 0 _ rfl; have o1 := plq.c 1 _ rfl; have o2 := plq.c 2 _ rfl; have o3 := plq.c 3 _ rfl
    have g0 := plq.f 0 _ rfl; have g1 := plq.f 1 _ rfl; have g2 := plq.f 2 _ rfl; have g3 := plq.f 3 _ rfl
    have HWZ := Lib.hid hwz; have HBZ := Lib.hid hbz; have HZ0 := Lib.hid z0; have HZ1 := Lib.hid z1; have HZ2 := Lib.hid z2; have HZ3 := Lib.hid z3
    clear hbq plq hwz pz hbz z0 z1 z2 z3
    go_wp2
    clear o0 o1 o2 o3 g0 g1 g2 g3
    have z0 := HZ0.out; have z1 := HZ1.out; have z2 := HZ2.out; have z3 := HZ3.out
    have hwz := HWZ.out
    simp only [setAll] at hwz
    rw [hwz]
    (try simp only [Exit.inBlock, Exit.then])
    rw [Exit.noGoto_ret]
    refine bodyPost_ret (v := .tuple #[.agg #[.int .i64 y0, .int .i64 y1, .int .i64 y2, .int .i64 y3], .int .i64 (n : Int)]) ?_ rfl ?_
    ·simp [results, Tryz.results67, go_sem, z0, z1, z2, z3]
    ·exact ⟨by rw [← HF.out, findF, HY.out]; rfl, HBZ.out⟩
 ·have hmv' : mv = bud := by omega
  subst hmv'
  clear hmv
  have hnl : ¬ (len : Int) < mv := by omega
  go_wp2
  clear e0 e1 m1
  go_step3
  go_wp2
  go_loopw [10, 12, 14, 41] (fun tv nv _ _ wr => ∃ (n : Nat) (t : Int), n ≤ (mv).toNat ∧ tv = .int .i64 t ∧ nv = .int .i64 (n : Int) ∧ findF P S T0 p ((mv).toNat - n) n t = q ∧ Below w4.heap.size w4 wr) (fun _ nv _ _ _ => (mv).toNat - (intOf nv).toNat)
  case atStart => exact ⟨0, t0, by omega, rfl, rfl, HQ2.out, Below.refl _ _⟩
  case round =>
   obtain ⟨n, t, hn, rfl, rfl, hf, hbw⟩ := hrel
   have HN := Lib.hid hn; have HBW := Lib.hid hbw
   have HB0 := Lib.hid (HB4.out.trans (hbw.mono HB4.out.size))
   have pp_ := PP4.out.below hbw
   have e0 := pp_.c 0 _ rfl; have e1 := pp_.c 1 _ rfl
   have hmx := HMX.out
   by_cases hlt : (n : Int) < mv
   ·have hyd : decide ((n : Int) < mv) = true := decide_eq_true hlt
    have hwn : IntKind.i64.wrap ((n : Int) + 1) = (n : Int) + 1 := by rw [IntKind.wrap_i64]; omega
    obtain ⟨k, hk⟩ : ∃ k, (mv).toNat - n = k + 1 := ⟨(mv).toNat - n - 1, by omega⟩
    have hk1 : (mv).toNat - (n + 1) = k := by omega
    have hn1 : n + 1 ≤ (mv).toNat := by omega
    rw [hk] at hf
    have HF := Lib.hid hf; have HK1 := Lib.hid hk1; have HN1 := Lib.hid hn1
    clear hn hbw pp_ hk hk1 hn1 hf hmx
    have ho := HO.out t wr HB0.out
    cases hr : realM S t with
    | false =>
     rw [hr] at ho
     have HHO := Lib.hid ho; have HR := Lib.hid hr
     clear ho hr e0 e1
     go_wp2_with fail
     refine HHO.out.mono ?_
     rintro e w5 ⟨rfl, hd⟩
     have HB5 := Lib.hid (HBW.out.trans (hd.below.mono HBW.out.size))
     clear hd
     have hbq := HB5.out
     have plq := PL.out.below hbq
     obtain ⟨wz, hwz⟩ : ∃ wz, setAll w5 lb 0 [.int .i64 3, .int .i64 t, .int .i64 0, .int .i64 0] = wz := ⟨_, rfl⟩
     have pz : Box wz lb [.int .i64 3, .int .i64 t, .int .i64 0, .int .i64 0] := by rw [← hwz]; exact plq.setAll [.int .i64 3, .int .i64 t, .int .i64 0, .int .i64 0] rfl
     have hbz : Below w.heap.size w wz := by rw [← hwz]; exact below_setAll (HB4.out.trans (hbq.mono HB4.out.size)) HLW.out _
     have z0 := pz.c 0 _ rfl; have z1 := pz.c 1 _ rfl; have z2 := pz.c 2 _ rfl; have z3 := pz.c 3 _ rfl
     have o0 := plq.c 0 _ rfl; have o1 := plq.c 1 _ rfl; have o2 := plq.c 2 _ rfl; have o3 := plq.c 3 _ rfl
     have g0 := plq.f 0 _ rfl; have g1 := plq.f 1 _ rfl; have g2 := plq.f 2 _ rfl; have g3 := plq.f 3 _ rfl
     have HWZ := Lib.hid hwz; have HBZ := Lib.hid hbz; have HZ0 := Lib.hid z0; have HZ1 := Lib.hid z1; have HZ2 := Lib.hid z2; have HZ3 := Lib.hid z3
     clear hbq plq hwz pz hbz z0 z1 z2 z3
     go_wp2
     clear o0 o1 o2 o3 g0 g1 g2 g3
     have z0 := HZ0.out; have z1 := HZ1.out; have z2 := HZ2.out; have z3 := HZ3.out
     have hwz := HWZ.out
     simp only [setAll] at hwz
     rw [hwz]
     (try simp only [Exit.inBlock, Exit.then])
     rw [Exit.noGoto_ret]
     refine bodyPost_ret (v := .tuple #[.agg #[.int .i64 3, .int .i64 t, .int .i64 0, .int .i64 0], .int .i64 ((n : Int) + 1)]) ?_ rfl ?_
     ·simp [results, Tryz.results67, go_sem, z0, z1, z2, z3]
     ·exact ⟨by rw [← HF.out, find_out HR.out]; rfl, HBZ.out⟩
    | true =>
     rw [hr] at ho
     obtain ⟨T, hg, hrt⟩ := realM_some hr
     obtain ⟨h0, h1, hT⟩ := getT_some hg
     obtain ⟨tn, rfl⟩ : ∃ tn : Nat, t = (tn : Int) := ⟨t.toNat, by omega⟩
     rw [Int.toNat_natCast] at hT
     have HHO := Lib.hid ho; have HG := Lib.hid hg; have HRT := Lib.hid hrt; have HT := Lib.hid hT
     clear ho hr hg hrt h0 h1 hT e0 e1
     go_wp2_with fail
     refine HHO.out.mono ?_
     rintro e w5 ⟨rfl, hd⟩
     have HB5 := Lib.hid (HBW.out.trans (hd.below.mono HBW.out.size))
     clear hd
     obtain ⟨wo, hwo⟩ : ∃ wo, wo = wr := ⟨_, rfl⟩
     have HWO := Lib.hid hwo
     clear hwo
     go_wp2
     go_loopw [10, 14, 41] (fun tv _ iv wr => ∃ i : Nat, i ≤ 3 ∧ iv = .int .i64 (i : Int) ∧ tv = .int .i64 (tn : Int) ∧ Below w4.heap.size w4 wr ∧ ∀ j, j < i → (decide (sideT P T j p < 0) && leavesW P T0 T p j) = false) (fun _ _ iv _ => 3 - (intOf iv).toNat)
     case atStart => exact ⟨0, by omega, rfl, rfl, HB5.out, fun j hj => absurd hj (by omega)⟩
     case round =>
      obtain ⟨i, hi, rfl, rfl, hbw, hall⟩ := hrel
      have HBR := Lib.hid hbw; have HALL := Lib.hid hall
      have HBR0 := Lib.hid (HB4.out.trans (hbw.mono HB4.out.size))
      have pp_ := PP4.out.below hbw
      have e0 := pp_.c 0 _ rfl; have e1 := pp_.c 1 _ rfl
      clear hbw hall pp_
      by_cases hl3 : i < 3
      ·have hyi : decide ((i : Int) < 3) = true := decide_eq_true (by omega)
       have hs := SI.out tn i T wr HT.out HRT.out hl3 HBR0.out
       obtain ⟨sd, hsd⟩ : ∃ sd, sideT P T i p = sd := ⟨_, rfl⟩
       rw [hsd] at hs
       have HS := Lib.hid hs; have HSD := Lib.hid hsd
       clear hs hsd
       by_cases hneg : sd < 0
       ·have hyn : decide (sd < 0) = true := decide_eq_true hneg
        go_wp2_with fail
        refine HS.out.mono ?_
        rintro e w6 ⟨rfl, hb6⟩
        have hb06 := HBR.out.trans (hb6.mono HBR.out.size)
        have hle := LE.out tn i T w6 HT.out HRT.out hl3 (HB4.out.trans (hb06.mono HB4.out.size))
        obtain ⟨lv, hlv⟩ : ∃ lv, leavesW P T0 T p i = lv := ⟨_, rfl⟩
        rw [hlv] at hle
        have pw_ := PW.out.below hb06
        have x0 := pw_.c 0 _ rfl; have x1 := pw_.c 1 _ rfl; have x2 := pw_.c 2 _ rfl; have x3 := pw_.c 3 _ rfl
        have HLE := Lib.hid hle; have HLV := Lib.hid hlv; have HB6 := Lib.hid hb06
        clear hb6 hb06 hle hlv pw_ e0 e1
        go_wp2_with fail
        refine HLE.out.mono ?_
        rintro e w7 ⟨rfl, hb7⟩
        have hb07 := HB6.out.trans (hb7.mono HB6.out.size)
        have HB7 := Lib.hid hb07
        clear hb7 x0 x1 x2 x3
        cases lv with
        | true =>
         obtain ⟨tb, hta, htl, m1, nc⟩ := TR.out tn T i w7 HT.out hl3 (HB4.out.trans (hb07.mono HB4.out.size))
         have i1 : (0 : Int) ≤ (tn : Int) := by omega
         have i2 : (tn : Int) < (len : Int) := by omega
         have i3 : (0 : Int) ≤ (i : Int) := by omega
         have i4 : (i : Int) < 3 := by omega
         have hgo : goesT P T0 T p = some i := firstK_at hl3 (by rw [HSD.out, hyn, HLV.out]; rfl) HALL.out
         have HGO := Lib.hid hgo
         clear hgo hta htl hb07
         go_wp2
         clear m1 nc
         refine ⟨⟨n + 1, T.n i, HN1.out, rfl, rfl, ?_, HB7.out⟩, ?_⟩
         ·rw [HK1.out, ← find_go HG.out HRT.out HGO.out]; exact HF.out
         ·have := HN1.out; simp [intOf]; omega
        | false =>
         clear hb07
         go_wp2
         go_roundw
         case rel =>
          refine ⟨i + 1, by omega, by go_num, rfl, HB7.out, fun j hj => ?_⟩
          rcases Nat.lt_or_ge j i with g | g
          ·exact HALL.out j g
          ·obtain rfl : j = i := by omega
           rw [HLV.out, Bool.and_false]
         case measure => simp [intOf]; omega
       ·have hyn : decide (sd < 0) = false := decide_eq_false hneg
        go_wp2_with fail
        refine HS.out.mono ?_
        rintro e w6 ⟨rfl, hb6⟩
        have HB6 := Lib.hid (HBR.out.trans (hb6.mono HBR.out.size))
        clear hb6 e0 e1
        go_wp2
        go_roundw
        case rel =>
         refine ⟨i + 1, by omega, by go_num, rfl, HB6.out, fun j hj => ?_⟩
         rcases Nat.lt_or_ge j i with g | g
         ·exact HALL.out j g
         ·obtain rfl : j = i := by omega
          rw [HSD.out, hyn, Bool.false_and]
        case measure => simp [intOf]; omega
      ·have hyi : decide ((i : Int) < 3) = false := decide_eq_false (by omega)
       have hi3 : i = 3 := by omega
       have hgo : goesT P T0 T p = none := firstK_none (fun j hj => HALL.out j (by omega))
       have hw := WI.out tn T wr HT.out HRT.out HBR0.out
       obtain ⟨⟨y0, y1, y2, y3⟩, hy⟩ : ∃ y, withinT P T tn p = y := ⟨_, rfl⟩
       rw [hy] at hw
       unfold placeV at hw
       simp only [] at hw
       have HWI := Lib.hid hw; have HY := Lib.hid hy; have HGO := Lib.hid hgo
       clear hi3 hgo hw hy
       go_wp2_with fail
       refine HWI.out.mono ?_
       rintro e w6 ⟨rfl, hb6⟩
       have HB6 := Lib.hid (HBR.out.trans (hb6.mono HBR.out.size))
       clear hb6 e0 e1
       have hbq := HB6.out
       have plq := PL.out.below hbq
       obtain ⟨wz, hwz⟩ : ∃ wz, setAll w6 lb 0 [.int .i64 y0, .int .i64 y1, .int .i64 y2, .int .i64 y3] = wz := ⟨_, rfl⟩
       have pz : Box wz lb [.int .i64 y0, .int .i64 y1, .int .i64 y2, .int .i64 y3] := by rw [← hwz]; exact plq.setAll [.int .i64 y0, .int .i64 y1, .int .i64 y2, .int .i64 y3] rfl
       have hbz : Below w.heap.size w wz := by rw [← hwz]; exact below_setAll (HB4.out.trans (hbq.mono HB4.out.size)) HLW.out _
       have z0 := pz.c 0 _ rfl; have z1 := pz.c 1 _ rfl; have z2 := pz.c 2 _ rfl; have z3 := pz.c 3 _ rfl
       have o0 := plq.c 0 _ rfl; have o1 := plq.c 1 _ rfl; have o2 := plq.c 2 _ rfl; have o3 := plq.c 3 _ rfl
       have g0 := plq.f 0 _ rfl; have g1 := plq.f 1 _ rfl; have g2 := plq.f 2 _ rfl; have g3 := plq.f 3 _ rfl
       have HWZ := Lib.hid hwz; have HBZ := Lib.hid hbz; have HZ0 := Lib.hid z0; have HZ1 := Lib.hid z1; have HZ2 := Lib.hid z2; have HZ3 := Lib.hid z3
       clear hbq plq hwz pz hbz z0 z1 z2 z3
       go_wp2
       clear o0 o1 o2 o3 g0 g1 g2 g3
       have z0 := HZ0.out; have z1 := HZ1.out; have z2 := HZ2.out; have z3 := HZ3.out
       have hwz := HWZ.out
       simp only [setAll] at hwz
       rw [hwz]
       (try simp only [Exit.inBlock, Exit.then])
       rw [Exit.noGoto_ret]
       refine bodyPost_ret (v := .tuple #[.agg #[.int .i64 y0, .int .i64 y1, .int .i64 y2, .int .i64 y3], .int .i64 ((n : Int) + 1)]) ?_ rfl ?_
       ·simp [results, Tryz.results67, go_sem, z0, z1, z2, z3]
       ·exact ⟨by rw [← HF.out, find_in HG.out HRT.out HGO.out, Int.toNat_natCast, HY.out]; rfl, HBZ.out⟩
   ·have hyd : decide ((n : Int) < mv) = false := decide_eq_false hlt
    have hk0 : (mv).toNat - n = 0 := by omega
    rw [hk0] at hf
    have hw := LO.out wr HB0.out
    obtain ⟨⟨y0, y1, y2, y3⟩, hy⟩ : ∃ y, lookM P S p = y := ⟨_, rfl⟩
    rw [hy] at hw
    unfold placeV at hw
    simp only [] at hw
    have HWI := Lib.hid hw; have HY := Lib.hid hy; have HF := Lib.hid hf
    clear hn hbw pp_ hf hmx hk0 hw hy
    go_wp2_with fail
    refine HWI.out.mono ?_
    rintro e w6 ⟨rfl, hb6⟩
    have HB6 := Lib.hid (HBW.out.trans (hb6.mono HBW.out.size))
    clear hb6 e0 e1
    have hbq := HB6.out
    have plq := PL.out.below hbq
    obtain ⟨wz, hwz⟩ : ∃ wz, setAll w6 lb 0 [.int .i64 y0, .int .i64 y1, .int .i64 y2, .int .i64 y3] = wz := ⟨_, rfl⟩
    have pz : Box wz lb [.int .i64 y0, .int .i64 y1, .int .i64 y2, .int .i64 y3] := by rw [← hwz]; exact plq.setAll [.int .i64 y0, .int .i64 y1, .int .i64 y2, .int .i64 y3] rfl
    have hbz : Below w.heap.size w wz := by rw [← hwz]; exact below_setAll (HB4.out.trans (hbq.mono HB4.out.size)) HLW.out _
    have z0 := pz.c 0 _ rfl; have z1 := pz.c 1 _ rfl; have z2 := pz.c 2 _ rfl; have z3 := pz.c 3 _ rfl
    have o0 := plq.c 0 _ rfl; have o1 := plq.c 1 _ rfl; have o2 := plq.c 2 _ rfl; have o3 := plq.c 3 _ rfl
    have g0 := plq.f 0 _ rfl; have g1 := plq.f 1 _ rfl; have g2 := plq.f 2 _ rfl; have g3 := plq.f 3 _ rfl
    have HWZ := Lib.hid hwz; have HBZ := Lib.hid hbz; have HZ0 := Lib.hid z0; have HZ1 := Lib.hid z1; have HZ2 := Lib.hid z2; have HZ3 := Lib.hid z3
    clear hbq plq hwz pz hbz z0 z1 z2 z3
    go_wp2
    clear o0 o1 o2 o3 g0 g1 g2 g3
    have z0 := HZ0.out; have z1 := HZ1.out; have z2 := HZ2.out; have z3 := HZ3.out
    have hwz := HWZ.out
    simp only [setAll] at hwz
    rw [hwz]
    (try simp only [Exit.inBlock, Exit.then])
    rw [Exit.noGoto_ret]
    refine bodyPost_ret (v := .tuple #[.agg #[.int .i64 y0, .int .i64 y1, .int .i64 y2, .int .i64 y3], .int .i64 (n : Int)]) ?_ rfl ?_
    ·simp [results, Tryz.results67, go_sem, z0, z1, z2, z3]
    ·exact ⟨by rw [← HF.out, findF, HY.out]; rfl, HBZ.out⟩
end Go.Proofs.YtecnnpkpgbbfkaaGreat
