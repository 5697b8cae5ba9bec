/- From the form of the rows to the walks of layer 8: what a Half, and a slice of them, read as. -/
import Derived.Test.YtdfabocecpcmcaaParti
import Derived.Test.YtdfabocecpcmcaaPartn
import Derived.Deep.Slices
import Derived.Deep.Strs
import Derived.Test.YtdfabocecpcmcaaPartl
namespace Go.Proofs.Ytdfabocecpcmcaa
open Go.ChangeShapes Go.WideShapes Go.RowKit Go.MagM
theorem halfCells : Try.prog.cellsOf 30 = 9 := by kernel_rfl
/-- Nine cells that read as a Half. -/
theorem open_half {H : Type} {enc : TypeId × Value → H} {W : World} {n : Nat} {c0 c1 c2 c3 c4 c5 c6 c7 c8 : Value} {x : DataW H × List MemPlace} (hf : DataW.trod enc Try.prog W 0 (fun _ => true) true n 30 [c0, c1, c2, c3, c4, c5, c6, c7, c8] = some x) :
    ∃ ma oa na ca pa ka da mb ob nb cb pb kb db mc oc nc cc pc kc dc La Xa Da Lb Xb Db Lc Xc Dc, c0 = .bool ma ∧ c1 = .slice oa na ca ∧ c2 = .slice pa ka da ∧ c3 = .bool mb ∧ c4 = .slice ob nb cb ∧ c5 = .slice pb kb db ∧ c6 = .bool mc ∧ c7 = .slice oc nc cc ∧ c8 = .slice pc kc dc ∧ FD W (.agg #[.bool ma, .slice oa na ca, .slice pa ka da]) La Xa Da ∧ FD W (.agg #[.bool mb, .slice ob nb cb, .slice pb kb db]) Lb Xb Db ∧ FD W (.agg #[.bool mc, .slice oc nc cc, .slice pc kc dc]) Lc Xc Dc := by
  obtain ⟨y0, y1, y2, n, _, _, h0, h1, h2⟩ := Go.Deep.trod_struct3 Try.underlying30 hf
  have h0' : DataW.trod enc Try.prog W 0 (fun _ => true) true n 28 [c0, c1, c2] = some y0 := by
    rw [← h0]; simp [cells27]
  have h1' : DataW.trod enc Try.prog W 0 (fun _ => true) true n 28 [c3, c4, c5] = some y1 := by
    rw [← h1]; simp [cells27]
  have h2' : DataW.trod enc Try.prog W 0 (fun _ => true) true n 28 [c6, c7, c8] = some y2 := by
    rw [← h2]; simp [cells27]
  obtain ⟨ma, oa, na, ca, pa, ka, da, La, Xa, Da, rfl, rfl, rfl, hA⟩ := open_frac h0'
  obtain ⟨mb, ob, nb, cb, pb, kb, db, Lb, Xb, Db, rfl, rfl, rfl, hB⟩ := open_frac h1'
  obtain ⟨mc, oc, nc, cc, pc, kc, dc, Lc, Xc, Dc, rfl, rfl, rfl, hC⟩ := open_frac h2'
  exact ⟨ma, oa, na, ca, pa, ka, da, mb, ob, nb, cb, pb, kb, db, mc, oc, nc, cc, pc, kc, dc, La, Xa, Da, Lb, Xb, Db, Lc, Xc, Dc, rfl, rfl, rfl, rfl, rfl, rfl, rfl, rfl, rfl, hA, hB, hC⟩
theorem list9_of {l : List Value} (h : l.length = 9) : ∃ c0 c1 c2 c3 c4 c5 c6 c7 c8, l = [c0, c1, c2, c3, c4, c5, c6, c7, c8] := by
  match l, h with
  | [c0, c1, c2, c3, c4, c5, c6, c7, c8], _ => exact ⟨c0, c1, c2, c3, c4, c5, c6, c7, c8, rfl⟩
theorem array9_of {a : Array Value} (h : a.size = 9) : ∃ c0 c1 c2 c3 c4 c5 c6 c7 c8, a = #[c0, c1, c2, c3, c4, c5, c6, c7, c8] := by
  obtain ⟨c0, c1, c2, c3, c4, c5, c6, c7, c8, e⟩ := list9_of (l := a.toList) (by simpa using h)
  exact ⟨c0, c1, c2, c3, c4, c5, c6, c7, c8, by apply Array.ext'; simpa using e⟩
set_option maxRecDepth 100000 in
/-- What a Half reads as. -/
theorem view_half {H : Type} {enc : TypeId × Value → H} {W : World} {b0 : Nat} {v : Value} {d : DataW H} {p : List MemPlace} (hv : Value.okWide Try.prog W .any b0 30 v)
    (h : DataW.Trod enc Try.prog W 0 (fun _ => true) true 30 v d p) :
    ∃ ma oa na ca pa ka da mb ob nb cb pb kb db mc oc nc cc pc kc dc La Xa Da Lb Xb Db Lc Xc Dc, v = .agg #[.bool ma, .slice oa na ca, .slice pa ka da, .bool mb, .slice ob nb cb, .slice pb kb db, .bool mc, .slice oc nc cc, .slice pc kc dc] ∧ FD W (.agg #[.bool ma, .slice oa na ca, .slice pa ka da]) La Xa Da ∧ FD W (.agg #[.bool mb, .slice ob nb cb, .slice pb kb db]) Lb Xb Db ∧ FD W (.agg #[.bool mc, .slice oc nc cc, .slice pc kc dc]) Lc Xc Dc := by
  obtain ⟨cs, rfl, hsz⟩ := okWide_struct Try.underlying30 hv
  obtain ⟨c0, c1, c2, c3, c4, c5, c6, c7, c8, rfl⟩ := array9_of (hsz.trans halfCells)
  obtain ⟨fuel, hf⟩ := h
  obtain ⟨ma, oa, na, ca, pa, ka, da, mb, ob, nb, cb, pb, kb, db, mc, oc, nc, cc, pc, kc, dc, La, Xa, Da, Lb, Xb, Db, Lc, Xc, Dc, rfl, rfl, rfl, rfl, rfl, rfl, rfl, rfl, rfl, hA, hB, hC⟩ := open_half (by simpa [Value.cells] using hf)
  exact ⟨ma, oa, na, ca, pa, ka, da, mb, ob, nb, cb, pb, kb, db, mc, oc, nc, cc, pc, kc, dc, La, Xa, Da, Lb, Xb, Db, Lc, Xc, Dc, rfl, hA, hB, hC⟩
set_option maxRecDepth 100000 in
/-- What a slice of Halves reads as. -/
theorem view_halves {H : Type} {enc : TypeId × Value → H} {W : World} {b0 : Nat} {v : Value} {d : DataW H} {p : List MemPlace} (hv : Value.okWide Try.prog W .any b0 22 v)
    (h : DataW.Trod enc Try.prog W 0 (fun _ => true) true 22 v d p) :
    ∃ ao n c l, v = .slice ao n c ∧ l.length = n ∧ n ≤ c ∧ HRaws W ao l := by
  obtain ⟨ao, n, c, rfl⟩ := okWide_slice Try.underlying22 hv
  obtain ⟨fuel, hf⟩ := h
  rcases Go.Deep.open_slice Try.underlying22 hf with ⟨hcs, _⟩ | ⟨a, len, cap, m, k, D, Pl, hcs, _, hlc, _, hm, _, hx⟩
  · simp [Value.cells] at hcs
    obtain ⟨rfl, rfl, rfl⟩ := hcs
    exact ⟨_, _, _, [], rfl, rfl, Nat.le_refl _, fun i Xa Da Xb Db Xc Dc hi => by simp at hi⟩
  · simp [Value.cells] at hcs
    obtain ⟨rfl, rfl, rfl⟩ := hcs
    simp only [if_true] at hm
    subst hm
    obtain ⟨ab, ao, as'⟩ := a
    have hs : 0 < n → as' = none := fun h0 => by
      obtain ⟨cs', h1, _⟩ := hx 0 (by omega)
      rw [halfCells] at h1
      obtain ⟨_, hlen, hcell⟩ := World.cells?_some h1
      obtain ⟨c0, c1, c2, c3, c4, c5, c6, c7, c8, rfl⟩ := list9_of hlen
      have hsp := World.cell?_spot (hcell 0 (by omega))
      simpa [Addr.add] using hsp
    have each : ∀ i, i < n → ∃ q : RawH, ∃ ma oa na ca pa ka da mb ob nb cb pb kb db mc oc nc cc pc kc dc, as' = none ∧ At9 W ab (ao + i * 9) (.bool ma) (.slice oa na ca) (.slice pa ka da) (.bool mb) (.slice ob nb cb) (.slice pb kb db) (.bool mc) (.slice oc nc cc) (.slice pc kc dc) ∧
        (∃ L, FD W (.agg #[.bool ma, .slice oa na ca, .slice pa ka da]) L q.1 q.2.1) ∧ (∃ L, FD W (.agg #[.bool mb, .slice ob nb cb, .slice pb kb db]) L q.2.2.1 q.2.2.2.1) ∧ (∃ L, FD W (.agg #[.bool mc, .slice oc nc cc, .slice pc kc dc]) L q.2.2.2.2.1 q.2.2.2.2.2) := by
      intro i hi
      obtain ⟨cs', h1, h2⟩ := hx i (by omega)
      rw [halfCells] at h1
      obtain ⟨_, hlen, hcell⟩ := World.cells?_some h1
      obtain ⟨c0, c1, c2, c3, c4, c5, c6, c7, c8, rfl⟩ := list9_of hlen
      obtain ⟨ma, oa, na, ca, pa, ka, da, mb, ob, nb, cb, pb, kb, db, mc, oc, nc, cc, pc, kc, dc, La, Xa, Da, Lb, Xb, Db, Lc, Xc, Dc, rfl, rfl, rfl, rfl, rfl, rfl, rfl, rfl, rfl, hA, hB, hC⟩ := open_half h2
      obtain rfl := hs (by omega)
      rw [addr_add] at hcell
      refine ⟨(Xa, Da, Xb, Db, Xc, Dc), ma, oa, na, ca, pa, ka, da, mb, ob, nb, cb, pb, kb, db, mc, oc, nc, cc, pc, kc, dc, rfl, ⟨?_, ?_, ?_, ?_, ?_, ?_, ?_, ?_, ?_⟩, ⟨La, hA⟩, ⟨Lb, hB⟩, ⟨Lc, hC⟩⟩
      · have := hcell 0 (by omega); rw [addr_add] at this; exact this
      · have := hcell 1 (by omega); rw [addr_add] at this; exact this
      · have := hcell 2 (by omega); rw [addr_add] at this; exact this
      · have := hcell 3 (by omega); rw [addr_add] at this; exact this
      · have := hcell 4 (by omega); rw [addr_add] at this; exact this
      · have := hcell 5 (by omega); rw [addr_add] at this; exact this
      · have := hcell 6 (by omega); rw [addr_add] at this; exact this
      · have := hcell 7 (by omega); rw [addr_add] at this; exact this
      · have := hcell 8 (by omega); rw [addr_add] at this; exact this
    obtain ⟨f, hfa⟩ := Go.Deep.choose_lt each
    refine ⟨_, _, _, (List.range n).map f, rfl, by simp, hlc, fun i Xa Da Xb Db Xc Dc hi => ?_⟩
    have hin : i < n := by have := (List.getElem?_eq_some_iff.1 hi).1; simpa using this
    have hq : f i = (Xa, Da, Xb, Db, Xc, Dc) := by
      rw [List.getElem?_map, List.getElem?_range hin] at hi
      simpa using hi
    obtain ⟨ma, oa, na, ca, pa, ka, da, mb, ob, nb, cb, pb, kb, db, mc, oc, nc, cc, pc, kc, dc, rfl, h1, h2, h3, h4⟩ := hfa i hin
    rw [hq] at h2 h3 h4
    exact ⟨ab, ao, ma, oa, na, ca, pa, ka, da, mb, ob, nb, cb, pb, kb, db, mc, oc, nc, cc, pc, kc, dc, rfl, h1, h2, h3, h4⟩
end Go.Proofs.Ytdfabocecpcmcaa
/- The statements' own shape. -/
namespace Go.Proofs.Ytdfabocecpcmcaa
open Go.RowKit Go.MagM
set_option maxRecDepth 100000 in
set_option maxHeartbeats 16000000 in
theorem cshape_any (ao : Option Addr) (n c : Nat) (l : List RawH) (w : World) (hn : l.length = n) (hc : n ≤ c) (hr : HRaws w ao l) :
    Calls Try.prog 9 #[.slice ao n c] w fun e w' => AnsP w w' e := by
  have hB_0 := Below.refl w.heap.size w
  obtain ⟨h, uo, e1, e2, h5, hl, hraw⟩ := half_cut hn hc w hr
  have HR := Lib.hid hraw; have HL := Lib.hid hl; clear hraw hl hr hn
  go_enter Try.func9, Try.ntmps9
  go_wp2_with fail
  refine (box20n _).mono ?_
  rintro e w1 ⟨ao1, ac1, rfl, sp1_0, fr1, hb1⟩
  have hB_1 := hB_0.trans (hb1.mono hB_0.size)
  clear hb1 hB_0
  go_wp2
  go_loopw [3, 14] (fun pv iv wr => ∃ k n0 : Nat, ∃ P : List (Rat × Rat), ∃ ao c, k ≤ h ∧ iv = .int .i64 k ∧ pv = .slice ao n0 c ∧ P.length = n0 ∧ n0 ≤ 4 + 2 * k ∧ Poly P ∧ (∀ a, ao = some a → w.heap.size ≤ a.block) ∧ SpotsR wr ao 7 P ∧ Below w.heap.size w wr) (fun _ iv _ => h - (intOf iv).toNat)
  case atStart => exact ⟨0, 4, boxQ ((20 : Int) : Rat), _, _, Nat.zero_le _, rfl, rfl, rfl, by omega, box_poly (by omega) (by show 20 < B; unfold B; omega), fr1, sp1_0, hB_1⟩
  case round =>
    obtain ⟨k, n0, P, po, pc, hk, rfl, rfl, hP, hn0, hpoly, frsp, sp_0, hB_0⟩ := hrel
    have HP := Lib.hid hP; have HPOLY := Lib.hid hpoly; clear hP hpoly
    by_cases hlt : k < h
    · obtain ⟨⟨Xa, Da, Xb, Db, Xc, Dc⟩, hlk⟩ : ∃ q, (l.take h)[k]? = some q := ⟨_, List.getElem?_eq_getElem (by rw [HL.out]; omega)⟩
      obtain ⟨b, o, m1a, o1a, n1a, c1a, p1a, k1a, d1a, m1b, o1b, n1b, c1b, p1b, k1b, d1b, m1c, o1c, n1c, c1c, p1c, k1c, d1c, hao, dd, ⟨La, f1a_0⟩, ⟨Lb, f1b_0⟩, ⟨Lc, f1c_0⟩⟩ := (HR.out.below hB_0) k Xa Da Xb Db Xc Dc hlk
      subst hao
      clear hlk
      obtain ⟨ee0, ee1, ee2, ee3, ee4, ee5, ee6, ee7, ee8⟩ := dd
      have ss1 := tame_small Xa Da; have ss2 := tame_small Xb Db; have ss3 := tame_small Xc Dc
      have SML := Lib.hid (show SmlH (tameQ Xa Da, tameQ Xb Db, tameQ Xc Dc) from ⟨ss1, ss2, ss3⟩)
      clear ss1 ss2 ss3
      have hl1B := hB_0.size
      obtain ⟨w2, hw2, ph_0, hb2, hs2⟩ := new_box wr (wr.heap.size) rfl [.bool m1a, .slice o1a n1a c1a, .slice p1a k1a d1a, .bool m1b, .slice o1b n1b c1b, .slice p1b k1b d1b, .bool m1c, .slice o1c n1c c1c, .slice p1c k1c d1c] 30
      have hb2' : Below wr.heap.size wr w2 := hb2.mono (by omega)
      clear hb2
      have hB_1 := hB_0.trans (hb2'.mono hB_0.size)
      have sp_1 := sp_0.below hb2'
      have f1a_1 := f1a_0.below hb2'
      have f1b_1 := f1b_0.below hb2'
      have f1c_1 := f1c_0.below hb2'
      clear hb2' hB_0 sp_0 f1a_0 f1b_0 f1c_0
      obtain ⟨phe0, phe1, phe2, phe3, phe4, phe5, phe6, phe7, phe8, phe9, phe10, phe11, phe12, phe13, phe14, phe15, phe16, phe17⟩ := ph_0.open9
      go_wp2_with fail
      refine (htame_any La Lb Lc Xa Xb Xc Da Db Dc _ f1a_1 f1b_1 f1c_1).mono ?_
      rintro e w3 ⟨m2a, o2a, n2a, c2a, p2a, k2a, d2a, m2b, o2b, n2b, c2b, p2b, k2b, d2b, m2c, o2c, n2c, c2c, p2c, k2c, d2c, rfl, f2a_0, f2b_0, f2c_0, hb3⟩
      clear phe0 phe1 phe2 phe3 phe4 phe5 phe6 phe7 phe8 phe9 phe10 phe11 phe12 phe13 phe14 phe15 phe16 phe17
      have hB_2 := hB_1.trans (hb3.mono hB_1.size)
      have sp_2 := sp_1.below hb3
      have f1a_2 := f1a_1.below hb3
      have f1b_2 := f1b_1.below hb3
      have f1c_2 := f1c_1.below hb3
      have ph_1 := ph_0.below hb3
      clear hb3 hB_1 sp_1 f1a_1 f1b_1 f1c_1 ph_0
      clear ee0 ee1 ee2 ee3 ee4 ee5 ee6 ee7 ee8
      clear f1a_2 f1b_2 f1c_2 ph_1
      have hl2B := hB_2.size
      obtain ⟨w4, hw4, pg_0, hb4, hs4⟩ := new_box w3 (w3.heap.size) rfl [.bool m2a, .slice o2a n2a c2a, .slice p2a k2a d2a, .bool m2b, .slice o2b n2b c2b, .slice p2b k2b d2b, .bool m2c, .slice o2c n2c c2c, .slice p2c k2c d2c] 30
      have hb4' : Below w3.heap.size w3 w4 := hb4.mono (by omega)
      clear hb4
      have hB_3 := hB_2.trans (hb4'.mono hB_2.size)
      have sp_3 := sp_2.below hb4'
      have f2a_1 := f2a_0.below hb4'
      have f2b_1 := f2b_0.below hb4'
      have f2c_1 := f2c_0.below hb4'
      clear hb4' hB_2 sp_2 f2a_0 f2b_0 f2c_0
      obtain ⟨pge0, pge1, pge2, pge3, pge4, pge5, pge6, pge7, pge8, pge9, pge10, pge11, pge12, pge13, pge14, pge15, pge16, pge17⟩ := pg_0.open9
      by_cases hfl : tameQ Xa Da = 0 ∧ tameQ Xb Db = 0
      · go_wp2_with fail
        refine (hflat_any 1 _ _ _ (by omega) f2a_1.q f2b_1.q true ⟨fun _ => rfl, fun _ => hfl⟩).mono ?_
        rintro e w5 ⟨rfl, hb5⟩
        clear pge0 pge1 pge2 pge3 pge4 pge5 pge6 pge7 pge8 pge9 pge10 pge11 pge12 pge13 pge14 pge15 pge16 pge17
        have hB_4 := hB_3.trans (hb5.mono hB_3.size)
        have sp_4 := sp_3.below hb5
        have f2a_2 := f2a_1.below hb5
        have f2b_2 := f2b_1.below hb5
        have f2c_2 := f2c_1.below hb5
        have pg_1 := pg_0.below hb5
        clear hb5 hB_3 sp_3 f2a_1 f2b_1 f2c_1 pg_0
        go_wp2
        refine ⟨⟨k + 1, n0, P, _, _, by omega, by go_num, rfl, HP.out, by omega, HPOLY.out, frsp, sp_4, hB_4⟩, by simp [intOf]; omega⟩
      · have HF := Lib.hid hfl; clear hfl
        go_wp2_with fail
        refine (hflat_any 1 _ _ _ (by omega) f2a_1.q f2b_1.q false ⟨fun h => absurd h HF.out, fun h => by cases h⟩).mono ?_
        rintro e w5 ⟨rfl, hb5⟩
        clear pge0 pge1 pge2 pge3 pge4 pge5 pge6 pge7 pge8 pge9 pge10 pge11 pge12 pge13 pge14 pge15 pge16 pge17
        have hB_4 := hB_3.trans (hb5.mono hB_3.size)
        have sp_4 := sp_3.below hb5
        have f2a_2 := f2a_1.below hb5
        have f2b_2 := f2b_1.below hb5
        have f2c_2 := f2c_1.below hb5
        have pg_1 := pg_0.below hb5
        clear hb5 hB_3 sp_3 f2a_1 f2b_1 f2c_1 pg_0
        obtain ⟨pge0, pge1, pge2, pge3, pge4, pge5, pge6, pge7, pge8, pge9, pge10, pge11, pge12, pge13, pge14, pge15, pge16, pge17⟩ := pg_1.open9
        have hAB : tameQ Xa Da ≠ 0 ∨ tameQ Xb Db ≠ 0 := by
          by_cases e : tameQ Xa Da = 0
          · exact .inr (fun e2 => HF.out ⟨e, e2⟩)
          · exact .inl e
        have HAB := Lib.hid hAB; clear hAB
        have hws3 := hB_4.size
        go_wp2_with fail
        refine (clipPoly po n0 pc P _ _ _ _ HP.out (by omega) HPOLY.out SML.out HAB.out sp_4 f2a_2.q f2b_2.q f2c_2.q).mono ?_
        rintro e w6 ⟨ao3, ac3, rfl, sp3_0, fr3, hb6⟩
        clear pge0 pge1 pge2 pge3 pge4 pge5 pge6 pge7 pge8 pge9 pge10 pge11 pge12 pge13 pge14 pge15 pge16 pge17
        have hB_5 := hB_4.trans (hb6.mono hB_4.size)
        have sp_5 := sp_4.below hb6
        have f2a_3 := f2a_2.below hb6
        have f2b_3 := f2b_2.below hb6
        have f2c_3 := f2c_2.below hb6
        have pg_2 := pg_1.below hb6
        clear hb6 hB_4 sp_4 f2a_2 f2b_2 f2c_2 pg_1
        have hcl := clip_len (A := tameQ Xa Da) (B := tameQ Xb Db) (C := tameQ Xc Dc) HAB.out HPOLY.out.1
        rw [HP.out] at hcl
        generalize hLn : (clipQ (tameQ Xa Da) (tameQ Xb Db) (tameQ Xc Dc) P).length = n3 at *
        have HLN := Lib.hid hLn; clear hLn
        go_wp2
        refine ⟨⟨k + 1, n3, _, _, _, by omega, by go_num, rfl, HLN.out, by omega, HPOLY.out.clip HAB.out SML.out, fun a ha => by have h1 := fr3 a ha; have h2 := hws3; omega, sp3_0, hB_5⟩, by simp [intOf]; omega⟩
    · obtain rfl : k = h := by omega
      go_wp2
      go_ret
      have hP := HP.out
      exact ⟨po, pc, P, by rw [hP]; rfl, by omega, HPOLY.out, sp_0, frsp, hB_0⟩
end Go.Proofs.Ytdfabocecpcmcaa
/- The statement ClipHalves, walked. -/
namespace Go.Proofs.Ytdfabocecpcmcaa
open Go.RowKit Go.MagM
theorem corner_clip {A B C : Rat} {P : List (Rat × Rat)} (hP : Conv0 P) {k : Nat} {x y : Rat} (h : (clipQ A B C P)[k]? = some (x, y)) : InL P (x, y) ∧ fvQ A B C (x, y) ≤ 0 := by
  have hk := (List.getElem?_eq_some_iff.1 h).1
  have hne : clipQ A B C P ≠ [] := fun e => by rw [e] at hk; simp at hk
  have hc : Conv P := by
    rcases hP with rfl | h
    · exact absurd clip_nil hne
    · exact h
  have h1 := corner_in (clip_conv hc hne) hk
  rw [at_cor0 h] at h1
  exact (clip_points hc hne _).1 h1
set_option maxRecDepth 100000 in
set_option maxHeartbeats 32000000 in
theorem ClipHalves_walk {ao : Option Addr} {n c : Nat} {l : List RawH} {ham : Bool} {hao : Option Addr} {han hac : Nat} {hap : Option Addr} {hak had : Nat} {hbm : Bool} {hbo : Option Addr} {hbn hbc : Nat} {hbp : Option Addr} {hbk hbd : Nat} {hcm : Bool} {hco : Option Addr} {hcn hcc : Nat} {hcp : Option Addr} {hck hcd : Nat} {Lha : Nat} {Xha : Int} {Dha : Nat} {Lhb : Nat} {Xhb : Int} {Dhb : Nat} {Lhc : Nat} {Xhc : Int} {Dhc : Nat} (w : World) (hn : l.length = n) (hc : n ≤ c) (hr : HRaws w ao l) (fha_0 : FD w (.agg #[.bool ham, .slice hao han hac, .slice hap hak had]) Lha Xha Dha) (fhb_0 : FD w (.agg #[.bool hbm, .slice hbo hbn hbc, .slice hbp hbk hbd]) Lhb Xhb Dhb) (fhc_0 : FD w (.agg #[.bool hcm, .slice hco hcn hcc, .slice hcp hck hcd]) Lhc Xhc Dhc) :
    Calls Try.prog 3 #[.slice ao n c, .agg #[.bool ham, .slice hao han hac, .slice hap hak had, .bool hbm, .slice hbo hbn hbc, .slice hbp hbk hbd, .bool hcm, .slice hco hcn hcc, .slice hcp hck hcd]] w fun e w' => e = .returned (.bool true) ∧ Below w.heap.size w w' := by
  have hB_0 := Below.refl w.heap.size w
  have HRR := Lib.hid hr; have HNN := Lib.hid hn; clear hr hn
  obtain ⟨w1, hw1, ph_0, hb1, hs1⟩ := new_box w (w.heap.size) rfl [.bool ham, .slice hao han hac, .slice hap hak had, .bool hbm, .slice hbo hbn hbc, .slice hbp hbk hbd, .bool hcm, .slice hco hcn hcc, .slice hcp hck hcd] 30
  have hb1' : Below w.heap.size w w1 := hb1.mono (by omega)
  clear hb1
  have hB_1 := hB_0.trans (hb1'.mono hB_0.size)
  have fha_1 := fha_0.below hb1'
  have fhb_1 := fhb_0.below hb1'
  have fhc_1 := fhc_0.below hb1'
  clear hb1' hB_0 fha_0 fhb_0 fhc_0
  go_enter Try.func3, Try.ntmps3
  go_wp2_with fail
  refine (cfit_any _).mono ?_
  rintro e w2 ⟨rfl, hb2⟩
  have hB_2 := hB_1.trans (hb2.mono hB_1.size)
  have fha_2 := fha_1.below hb2
  have fhb_2 := fhb_1.below hb2
  have fhc_2 := fhc_1.below hb2
  have ph_1 := ph_0.below hb2
  clear hb2 hB_1 fha_1 fhb_1 fhc_1 ph_0
  have hphl := ph_1.lt
  go_wp2_with fail
  refine (cshape_any ao n c l _ HNN.out hc (HRR.out.below hB_2)).mono ?_
  rintro e w3 ⟨po, pc, P, rfl, hPl, hPoly, sp1_0, frsp1, hb3⟩
  have hB_3 := hB_2.trans (hb3.mono hB_2.size)
  have fha_3 := fha_2.below hb3
  have fhb_3 := fhb_2.below hb3
  have fhc_3 := fhc_2.below hb3
  have ph_2 := ph_1.below hb3
  clear hb3 hB_2 fha_2 fhb_2 fhc_2 ph_1
  generalize hPn : P.length = n0 at *
  have HPN := Lib.hid hPn; have HPOLY := Lib.hid hPoly; clear hPn hPoly
  obtain ⟨phe0, phe1, phe2, phe3, phe4, phe5, phe6, phe7, phe8, phe9, phe10, phe11, phe12, phe13, phe14, phe15, phe16, phe17⟩ := ph_2.open9
  have SML := Lib.hid (show SmlH (tameQ Xha Dha, tameQ Xhb Dhb, tameQ Xhc Dhc) from ⟨tame_small _ _, tame_small _ _, tame_small _ _⟩)
  go_wp2_with fail
  refine (htame_any Lha Lhb Lhc Xha Xhb Xhc Dha Dhb Dhc _ fha_3 fhb_3 fhc_3).mono ?_
  rintro e w4 ⟨m1a, o1a, n1a, c1a, p1a, k1a, d1a, m1b, o1b, n1b, c1b, p1b, k1b, d1b, m1c, o1c, n1c, c1c, p1c, k1c, d1c, rfl, f1a_0, f1b_0, f1c_0, hb4⟩
  clear phe0 phe1 phe2 phe3 phe4 phe5 phe6 phe7 phe8 phe9 phe10 phe11 phe12 phe13 phe14 phe15 phe16 phe17
  have hB_4 := hB_3.trans (hb4.mono hB_3.size)
  have fha_4 := fha_3.below hb4
  have fhb_4 := fhb_3.below hb4
  have fhc_4 := fhc_3.below hb4
  have ph_3 := ph_2.below hb4
  have sp1_1 := sp1_0.below hb4
  clear hb4 hB_3 fha_3 fhb_3 fhc_3 ph_2 sp1_0
  obtain ⟨phe0, phe1, phe2, phe3, phe4, phe5, phe6, phe7, phe8, phe9, phe10, phe11, phe12, phe13, phe14, phe15, phe16, phe17⟩ := ph_3.open9
  clear fha_4 fhb_4 fhc_4
  clear phe0 phe1 phe2 phe3 phe4 phe5 phe6 phe7 phe8 phe9 phe10 phe11 phe12 phe13 phe14 phe15 phe16 phe17
  obtain ⟨sf1a, sf1b, sf1c, sf1d, sf1e, sf1f, sf1g, sf1h, sf1i, sf1j, sf1k, sf1l, sf1m, sf1n, sf1o, sf1p, sf1q, sf1r⟩ := ph_3.open9
  obtain ⟨sg1a, sg1b, sg1c, sg1d, sg1e, sg1f, sg1g, sg1h, sg1i, sg1j, sg1k, sg1l, sg1m, sg1n, sg1o, sg1p⟩ := Box.put9 ph_3 (.bool m1a) (.slice o1a n1a c1a) (.slice p1a k1a d1a) (.bool m1b) (.slice o1b n1b c1b) (.slice p1b k1b d1b) (.bool m1c) (.slice o1c n1c c1c)
  have hB_5 := below_setAll hB_4 (g := w.heap.size) (by omega) [.bool m1a, .slice o1a n1a c1a, .slice p1a k1a d1a, .bool m1b, .slice o1b n1b c1b, .slice p1b k1b d1b, .bool m1c, .slice o1c n1c c1c, .slice p1c k1c d1c]
  have sp1_2 := sp1_1.setBox ph_3 (noWordB _ rfl) [.bool m1a, .slice o1a n1a c1a, .slice p1a k1a d1a, .bool m1b, .slice o1b n1b c1b, .slice p1b k1b d1b, .bool m1c, .slice o1c n1c c1c, .slice p1c k1c d1c] rfl (fun a ha => by have h1 := frsp1 a ha; omega)
  have f1a_1 := f1a_0.setAll ph_3 (noWordB _ rfl) [.bool m1a, .slice o1a n1a c1a, .slice p1a k1a d1a, .bool m1b, .slice o1b n1b c1b, .slice p1b k1b d1b, .bool m1c, .slice o1c n1c c1c, .slice p1c k1c d1c] rfl
  have f1b_1 := f1b_0.setAll ph_3 (noWordB _ rfl) [.bool m1a, .slice o1a n1a c1a, .slice p1a k1a d1a, .bool m1b, .slice o1b n1b c1b, .slice p1b k1b d1b, .bool m1c, .slice o1c n1c c1c, .slice p1c k1c d1c] rfl
  have f1c_1 := f1c_0.setAll ph_3 (noWordB _ rfl) [.bool m1a, .slice o1a n1a c1a, .slice p1a k1a d1a, .bool m1b, .slice o1b n1b c1b, .slice p1b k1b d1b, .bool m1c, .slice o1c n1c c1c, .slice p1c k1c d1c] rfl
  have ph_4 := ph_3.setAll [.bool m1a, .slice o1a n1a c1a, .slice p1a k1a d1a, .bool m1b, .slice o1b n1b c1b, .slice p1b k1b d1b, .bool m1c, .slice o1c n1c c1c, .slice p1c k1c d1c] rfl
  simp only [setAll, Nat.zero_add, Nat.reduceAdd] at hB_5 ph_4 sp1_2 f1a_1 f1b_1 f1c_1
  obtain ⟨phe0, phe1, phe2, phe3, phe4, phe5, phe6, phe7, phe8, phe9, phe10, phe11, phe12, phe13, phe14, phe15, phe16, phe17⟩ := ph_4.open9
  go_wp2_with fail
  clear sf1a sf1b sf1c sf1d sf1e sf1f sf1g sf1h sf1i sf1j sf1k sf1l sf1m sf1n sf1o sf1p sf1q sf1r sg1a sg1b sg1c sg1d sg1e sg1f sg1g sg1h sg1i sg1j sg1k sg1l sg1m sg1n sg1o sg1p hB_4 sp1_1 f1a_0 f1b_0 f1c_0 ph_3
  generalize (World.setCell (World.setCell (World.setCell (World.setCell (World.setCell (World.setCell (World.setCell (World.setCell (World.setCell w4 ⟨w.heap.size, 0, none⟩ (.bool m1a)) ⟨w.heap.size, 1, none⟩ (.slice o1a n1a c1a)) ⟨w.heap.size, 2, none⟩ (.slice p1a k1a d1a)) ⟨w.heap.size, 3, none⟩ (.bool m1b)) ⟨w.heap.size, 4, none⟩ (.slice o1b n1b c1b)) ⟨w.heap.size, 5, none⟩ (.slice p1b k1b d1b)) ⟨w.heap.size, 6, none⟩ (.bool m1c)) ⟨w.heap.size, 7, none⟩ (.slice o1c n1c c1c)) ⟨w.heap.size, 8, none⟩ (.slice p1c k1c d1c)) = w5 at *
  by_cases hfl1 : tameQ Xha Dha = 0 ∧ tameQ Xhb Dhb = 0
  · go_wp2_with fail
    refine (hflat_any 1 _ _ _ (by omega) f1a_1.q f1b_1.q true ⟨fun _ => rfl, fun _ => hfl1⟩).mono ?_
    rintro e w6 ⟨rfl, hb6⟩
    clear phe0 phe1 phe2 phe3 phe4 phe5 phe6 phe7 phe8 phe9 phe10 phe11 phe12 phe13 phe14 phe15 phe16 phe17
    have hB_6 := hB_5.trans (hb6.mono hB_5.size)
    have ph_5 := ph_4.below hb6
    have sp1_3 := sp1_2.below hb6
    have f1a_2 := f1a_1.below hb6
    have f1b_2 := f1b_1.below hb6
    have f1c_2 := f1c_1.below hb6
    clear hb6 hB_5 ph_4 sp1_2 f1a_1 f1b_1 f1c_1
    go_wp2
    go_ret
    exact ⟨rfl, hB_6⟩
  · have hAB : tameQ Xha Dha ≠ 0 ∨ tameQ Xhb Dhb ≠ 0 := by
      by_cases e : tameQ Xha Dha = 0
      · exact .inr (fun e2 => hfl1 ⟨e, e2⟩)
      · exact .inl e
    have HAB1 := Lib.hid hAB; have HF1 := Lib.hid hfl1; clear hAB hfl1
    go_wp2_with fail
    refine (hflat_any 1 _ _ _ (by omega) f1a_1.q f1b_1.q false ⟨fun h => absurd h HF1.out, fun h => by cases h⟩).mono ?_
    rintro e w6 ⟨rfl, hb6⟩
    clear phe0 phe1 phe2 phe3 phe4 phe5 phe6 phe7 phe8 phe9 phe10 phe11 phe12 phe13 phe14 phe15 phe16 phe17
    have hB_6 := hB_5.trans (hb6.mono hB_5.size)
    have ph_5 := ph_4.below hb6
    have sp1_3 := sp1_2.below hb6
    have f1a_2 := f1a_1.below hb6
    have f1b_2 := f1b_1.below hb6
    have f1c_2 := f1c_1.below hb6
    clear hb6 hB_5 ph_4 sp1_2 f1a_1 f1b_1 f1c_1
    obtain ⟨phe0, phe1, phe2, phe3, phe4, phe5, phe6, phe7, phe8, phe9, phe10, phe11, phe12, phe13, phe14, phe15, phe16, phe17⟩ := ph_5.open9
    go_wp2
    have SMN := Lib.hid (show SmlH (-(tameQ Xha Dha), -(tameQ Xhb Dhb), -(tameQ Xhc Dhc)) from ⟨sml_neg SML.out.1, sml_neg SML.out.2.1, sml_neg SML.out.2.2⟩)
    have HABN := Lib.hid (show -(tameQ Xha Dha) ≠ 0 ∨ -(tameQ Xhb Dhb) ≠ 0 from HAB1.out.elim (fun h => .inl (fun e => h (by grind))) (fun h => .inr (fun e => h (by grind))))
    clear phe0 phe1 phe2 phe3 phe4 phe5 phe6 phe7 phe8 phe9 phe10 phe11 phe12 phe13 phe14 phe15 phe16 phe17
    have hB_7 := hB_6.drew'
    have ph_6 := ph_5.drew
    have sp1_4 := sp1_3.drew
    have f1a_3 := f1a_2.drew
    have f1b_3 := f1b_2.drew
    have f1c_3 := f1c_2.drew
    clear hB_6 ph_5 sp1_3 f1a_2 f1b_2 f1c_2
    go_region_held3 (fun w' => w'.cell? ⟨w.heap.size, 0, none⟩ = some (.bool m1a) ∧ w'.cell? ⟨w.heap.size, 1, none⟩ = some (.slice o1a n1a c1a) ∧ w'.cell? ⟨w.heap.size, 2, none⟩ = some (.slice p1a k1a d1a) ∧ w'.cell? ⟨w.heap.size, 3, none⟩ = some (.bool m1b) ∧ w'.cell? ⟨w.heap.size, 4, none⟩ = some (.slice o1b n1b c1b) ∧ w'.cell? ⟨w.heap.size, 5, none⟩ = some (.slice p1b k1b d1b) ∧ w'.cell? ⟨w.heap.size, 6, none⟩ = some (.bool m1c) ∧ w'.cell? ⟨w.heap.size, 7, none⟩ = some (.slice o1c n1c c1c) ∧ w'.cell? ⟨w.heap.size, 8, none⟩ = some (.slice p1c k1c d1c))
      (first | with_reducible exact ⟨ph_6.c0, ph_6.c1, ph_6.c2, ph_6.c3, ph_6.c4, ph_6.c5, ph_6.c6, ph_6.c7, ph_6.c8⟩ | with_reducible exact ⟨ph_7.c0, ph_7.c1, ph_7.c2, ph_7.c3, ph_7.c4, ph_7.c5, ph_7.c6, ph_7.c7, ph_7.c8⟩ | with_reducible exact ⟨ph_8.c0, ph_8.c1, ph_8.c2, ph_8.c3, ph_8.c4, ph_8.c5, ph_8.c6, ph_8.c7, ph_8.c8⟩ | with_reducible exact ⟨ph_9.c0, ph_9.c1, ph_9.c2, ph_9.c3, ph_9.c4, ph_9.c5, ph_9.c6, ph_9.c7, ph_9.c8⟩ | fail)
      (first
        | (go_at_call 12; (with_reducible refine (clipPoly po n0 pc P _ _ _ _ HPN.out (by omega) HPOLY.out SML.out HAB1.out sp1_4 f1a_3.q f1b_3.q f1c_3.q).mono ?_); rintro e w7 ⟨ao2, ac2, rfl, sp2_0, frsp2, hb7⟩; have hB_8 := hB_7.trans (hb7.mono hB_7.size); have ph_7 := ph_6.below hb7; have sp1_5 := sp1_4.below hb7; have f1a_4 := f1a_3.below hb7; have f1b_4 := f1b_3.below hb7; have f1c_4 := f1c_3.below hb7; clear hb7 hB_7 ph_6 sp1_4 f1a_3 f1b_3 f1c_3)
        | (go_at_call 13; (with_reducible refine (hturned_any _ _ _ _ f1a_4.q f1b_4.q f1c_4.q).mono ?_); rintro e w8 ⟨m3a, o3a, n3a, c3a, p3a, k3a, d3a, m3b, o3b, n3b, c3b, p3b, k3b, d3b, m3c, o3c, n3c, c3c, p3c, k3c, d3c, rfl, f3a_0, f3b_0, f3c_0, hb8⟩; have hB_9 := hB_8.trans (hb8.mono hB_8.size); have ph_8 := ph_7.below hb8; have sp1_6 := sp1_5.below hb8; have f1a_5 := f1a_4.below hb8; have f1b_5 := f1b_4.below hb8; have f1c_5 := f1c_4.below hb8; have sp2_1 := sp2_0.below hb8; clear hb8 hB_8 ph_7 sp1_5 f1a_4 f1b_4 f1c_4 sp2_0)
        | (go_at_call 12; (with_reducible refine (clipPoly po n0 pc P _ _ _ _ HPN.out (by omega) HPOLY.out SMN.out HABN.out sp1_6 f3a_0.q f3b_0.q f3c_0.q).mono ?_); rintro e w9 ⟨ao4, ac4, rfl, sp4_0, frsp4, hb9⟩; have hB_10 := hB_9.trans (hb9.mono hB_9.size); have ph_9 := ph_8.below hb9; have sp1_7 := sp1_6.below hb9; have f1a_6 := f1a_5.below hb9; have f1b_6 := f1b_5.below hb9; have f1c_6 := f1c_5.below hb9; have sp2_2 := sp2_1.below hb9; have f3a_1 := f3a_0.below hb9; have f3b_1 := f3b_0.below hb9; have f3c_1 := f3c_0.below hb9; clear hb9 hB_9 ph_8 sp1_6 f1a_5 f1b_5 f1c_5 sp2_1 f3a_0 f3b_0 f3c_0))
    have hcl2 := clip_len (l := P) (HAB1.out) (C := tameQ Xhc Dhc) HPOLY.out.1
    rw [HPN.out] at hcl2
    generalize hLn : (clipQ (tameQ Xha Dha) (tameQ Xhb Dhb) (tameQ Xhc Dhc) P).length = n2 at *
    have HN2 := Lib.hid hLn; clear hLn
    have hcl4 := clip_len (l := P) (HABN.out) (C := -(tameQ Xhc Dhc)) HPOLY.out.1
    rw [HPN.out] at hcl4
    generalize hLn : (clipQ (-(tameQ Xha Dha)) (-(tameQ Xhb Dhb)) (-(tameQ Xhc Dhc)) P).length = n4 at *
    have HN4 := Lib.hid hLn; clear hLn
    clear f3a_1
    clear f3b_1
    clear f3c_1
    go_wp2_with fail
    refine (cConvex_yes po n0 pc _ 7 _ HPN.out (by omega) (by omega) sp1_7 HPOLY.out.1).mono ?_
    rintro e w10 ⟨rfl, hb10⟩
    have hB_11 := hB_10.trans (hb10.mono hB_10.size)
    have ph_10 := ph_9.below hb10
    have sp1_8 := sp1_7.below hb10
    have f1a_7 := f1a_6.below hb10
    have f1b_7 := f1b_6.below hb10
    have f1c_7 := f1c_6.below hb10
    have sp2_3 := sp2_2.below hb10
    have sp4_1 := sp4_0.below hb10
    clear hb10 hB_10 ph_9 sp1_7 f1a_6 f1b_6 f1c_6 sp2_2 sp4_0
    go_wp2_with fail
    refine (cConvex_yes ao2 n2 ac2 _ 7 _ HN2.out (by omega) (by omega) sp2_3 (clip_conv0 HPOLY.out.1)).mono ?_
    rintro e w11 ⟨rfl, hb11⟩
    have hB_12 := hB_11.trans (hb11.mono hB_11.size)
    have ph_11 := ph_10.below hb11
    have sp1_9 := sp1_8.below hb11
    have f1a_8 := f1a_7.below hb11
    have f1b_8 := f1b_7.below hb11
    have f1c_8 := f1c_7.below hb11
    have sp2_4 := sp2_3.below hb11
    have sp4_2 := sp4_1.below hb11
    clear hb11 hB_11 ph_10 sp1_8 f1a_7 f1b_7 f1c_7 sp2_3 sp4_1
    go_wp2_with fail
    refine (cConvex_yes ao4 n4 ac4 _ 7 _ HN4.out (by omega) (by omega) sp4_2 (clip_conv0 HPOLY.out.1)).mono ?_
    rintro e w12 ⟨rfl, hb12⟩
    have hB_13 := hB_12.trans (hb12.mono hB_12.size)
    have ph_12 := ph_11.below hb12
    have sp1_10 := sp1_9.below hb12
    have f1a_9 := f1a_8.below hb12
    have f1b_9 := f1b_8.below hb12
    have f1c_9 := f1c_8.below hb12
    have sp2_5 := sp2_4.below hb12
    have sp4_3 := sp4_2.below hb12
    clear hb12 hB_12 ph_11 sp1_9 f1a_8 f1b_8 f1c_8 sp2_4 sp4_2
    go_wp2_with fail
    refine (sArea2_any ao2 n2 ac2 _ 7 _ HN2.out (by omega) (by omega) sp2_5.spots).mono ?_
    rintro e w13 ⟨m5, o5, n5, c5, p5, k5, d5, rfl, f5_0, hb13⟩
    have hB_14 := hB_13.trans (hb13.mono hB_13.size)
    have ph_13 := ph_12.below hb13
    have sp1_11 := sp1_10.below hb13
    have f1a_10 := f1a_9.below hb13
    have f1b_10 := f1b_9.below hb13
    have f1c_10 := f1c_9.below hb13
    have sp2_6 := sp2_5.below hb13
    have sp4_4 := sp4_3.below hb13
    clear hb13 hB_13 ph_12 sp1_10 f1a_9 f1b_9 f1c_9 sp2_5 sp4_3
    go_wp2_with fail
    refine (sArea2_any ao4 n4 ac4 _ 7 _ HN4.out (by omega) (by omega) sp4_4.spots).mono ?_
    rintro e w14 ⟨m6, o6, n6, c6, p6, k6, d6, rfl, f6_0, hb14⟩
    have hB_15 := hB_14.trans (hb14.mono hB_14.size)
    have ph_14 := ph_13.below hb14
    have sp1_12 := sp1_11.below hb14
    have f1a_11 := f1a_10.below hb14
    have f1b_11 := f1b_10.below hb14
    have f1c_11 := f1c_10.below hb14
    have sp2_7 := sp2_6.below hb14
    have sp4_5 := sp4_4.below hb14
    have f5_1 := f5_0.below hb14
    clear hb14 hB_14 ph_13 sp1_11 f1a_10 f1b_10 f1c_10 sp2_6 sp4_4 f5_0
    go_wp2_with fail
    refine (qAdd _ _ (1 + n2 * ((7 + 7 + 2 + (7 + 7 + 2) + 2) + 2)) (1 + n4 * ((7 + 7 + 2 + (7 + 7 + 2) + 2) + 2)) _ _ _ (by omega) (by omega) f5_1.q f6_0.q).mono ?_
    rintro e w15 ⟨m7, o7, n7, c7, p7, k7, d7, rfl, f7_0, hb15⟩
    have hB_16 := hB_15.trans (hb15.mono hB_15.size)
    have ph_15 := ph_14.below hb15
    have sp1_13 := sp1_12.below hb15
    have f1a_12 := f1a_11.below hb15
    have f1b_12 := f1b_11.below hb15
    have f1c_12 := f1c_11.below hb15
    have sp2_8 := sp2_7.below hb15
    have sp4_6 := sp4_5.below hb15
    have f5_2 := f5_1.below hb15
    have f6_1 := f6_0.below hb15
    clear hb15 hB_15 ph_14 sp1_12 f1a_11 f1b_11 f1c_11 sp2_7 sp4_5 f5_1 f6_0
    go_wp2_with fail
    refine (sArea2_any po n0 pc _ 7 _ HPN.out (by omega) (by omega) sp1_13.spots).mono ?_
    rintro e w16 ⟨m8, o8, n8, c8, p8, k8, d8, rfl, f8_0, hb16⟩
    have hB_17 := hB_16.trans (hb16.mono hB_16.size)
    have ph_16 := ph_15.below hb16
    have sp1_14 := sp1_13.below hb16
    have f1a_13 := f1a_12.below hb16
    have f1b_13 := f1b_12.below hb16
    have f1c_13 := f1c_12.below hb16
    have sp2_9 := sp2_8.below hb16
    have sp4_7 := sp4_6.below hb16
    have f5_3 := f5_2.below hb16
    have f6_2 := f6_1.below hb16
    have f7_1 := f7_0.below hb16
    clear hb16 hB_16 ph_15 sp1_13 f1a_12 f1b_12 f1c_12 sp2_8 sp4_6 f5_2 f6_1 f7_0
    go_wp2_with fail
    refine (qSame_yes _ _ (1 + n2 * ((7 + 7 + 2 + (7 + 7 + 2) + 2) + 2) + (1 + n4 * ((7 + 7 + 2 + (7 + 7 + 2) + 2) + 2)) + 2) (1 + n0 * ((7 + 7 + 2 + (7 + 7 + 2) + 2) + 2)) _ _ _ (by omega) (by omega) f7_1.q f8_0.q (clip_halves HAB1.out P)).mono ?_
    rintro e w17 ⟨rfl, hb17⟩
    have hB_18 := hB_17.trans (hb17.mono hB_17.size)
    have ph_17 := ph_16.below hb17
    have sp1_15 := sp1_14.below hb17
    have f1a_14 := f1a_13.below hb17
    have f1b_14 := f1b_13.below hb17
    have f1c_14 := f1c_13.below hb17
    have sp2_10 := sp2_9.below hb17
    have sp4_8 := sp4_7.below hb17
    have f5_4 := f5_3.below hb17
    have f6_3 := f6_2.below hb17
    have f7_2 := f7_1.below hb17
    have f8_1 := f8_0.below hb17
    clear hb17 hB_17 ph_16 sp1_14 f1a_13 f1b_13 f1c_13 sp2_9 sp4_7 f5_3 f6_2 f7_1 f8_0
    clear f5_4 f6_3 f7_2 f8_1 sp4_8
    go_wp2
    have F1a := Lib.hid f1a_14
    have F1b := Lib.hid f1b_14
    have F1c := Lib.hid f1c_14
    have SPA := Lib.hid sp2_10; have SPP := Lib.hid sp1_15; have PHH := Lib.hid ph_17
    clear f1a_14 f1b_14 f1c_14 sp2_10 sp1_15 ph_17
    have hW_0 := Below.refl w17.heap.size w17
    have hws := hB_18.size
    go_loopw [51] (fun iv wr => ∃ k : Nat, k ≤ n2 ∧ iv = .int .i64 k ∧ Below w.heap.size w wr ∧ Below w17.heap.size w17 wr) (fun iv _ => n2 - (intOf iv).toNat)
    case atStart => exact ⟨0, Nat.zero_le _, rfl, hB_18, hW_0⟩
    case round =>
      obtain ⟨k, hk, rfl, hB_0, hW_0⟩ := hrel
      by_cases hlt : k < n2
      · obtain ⟨⟨x, y⟩, hlk⟩ : ∃ p, (clipQ (tameQ Xha Dha) (tameQ Xhb Dhb) (tameQ Xhc Dhc) P)[k]? = some p := ⟨_, List.getElem?_eq_getElem (by rw [HN2.out]; omega)⟩
        have hin := corner_clip HPOLY.out.1 hlk
        obtain ⟨b, o, m9x, o9x, n9x, c9x, p9x, k9x, d9x, m9y, o9y, n9y, c9y, p9y, k9y, d9y, hao, dd, r9x, r9y⟩ := (SPA.out.below hW_0) k x y hlk
        subst hao
        obtain ⟨ee0, ee1, ee2, ee3, ee4, ee5⟩ := dd
        obtain ⟨sc, hsc⟩ : ∃ s, (fvQ (tameQ Xha Dha) (tameQ Xhb Dhb) (tameQ Xhc Dhc) (x, y)).num.sign = s := ⟨_, rfl⟩
        have hle := (sgn_le0 (fvQ (tameQ Xha Dha) (tameQ Xhb Dhb) (tameQ Xhc Dhc) (x, y))).2 hin.2
        rw [hsc] at hle
        have hle' : ¬ 0 < sc := by omega
        have HSC := Lib.hid hsc; have HIN := Lib.hid hin.1; clear hsc hin hlk
        have f9x_0 := r9x.q; have f9y_0 := r9y.q; clear r9x r9y
        have ph_0 := PHH.out.below hW_0
        have sp1_0 := SPP.out.below hW_0
        have f1a_0 := F1a.out.below hW_0
        have f1b_0 := F1b.out.below hW_0
        have f1c_0 := F1c.out.below hW_0
        have hl1ph := ph_0.lt
        have hl1B := hB_0.size
        obtain ⟨w18, hw18, pt_0, hb18, hs18⟩ := new_box wr (wr.heap.size) rfl [.bool m9x, .slice o9x n9x c9x, .slice p9x k9x d9x, .bool m9y, .slice o9y n9y c9y, .slice p9y k9y d9y] 42
        have hb18' : Below wr.heap.size wr w18 := hb18.mono (by omega)
        clear hb18
        have hB_1 := hB_0.trans (hb18'.mono hB_0.size)
        have hW_1 := hW_0.trans (hb18'.mono hW_0.size)
        have f1a_1 := f1a_0.below hb18'
        have f1b_1 := f1b_0.below hb18'
        have f1c_1 := f1c_0.below hb18'
        have f9x_1 := f9x_0.below hb18'
        have f9y_1 := f9y_0.below hb18'
        have sp1_1 := sp1_0.below hb18'
        have ph_1 := ph_0.below hb18'
        clear hb18' hB_0 hW_0 f1a_0 f1b_0 f1c_0 f9x_0 f9y_0 sp1_0 ph_0
        obtain ⟨phe0, phe1, phe2, phe3, phe4, phe5, phe6, phe7, phe8, phe9, phe10, phe11, phe12, phe13, phe14, phe15, phe16, phe17⟩ := ph_1.open9
        obtain ⟨pte0, pte1, pte2, pte3, pte4, pte5, pte6, pte7, pte8, pte9, pte10, pte11⟩ := pt_0.open6
        go_wp2_with fail
        refine (cValue_any 1 _ _ _ 7 x y _ (by omega) (by omega) f1a_1.q f1b_1.q f1c_1.q f9x_1 f9y_1).mono ?_
        rintro e w19 ⟨m10, o10, n10, c10, p10, k10, d10, rfl, f10_0, hb19⟩
        clear phe0 phe1 phe2 phe3 phe4 phe5 phe6 phe7 phe8 phe9 phe10 phe11 phe12 phe13 phe14 phe15 phe16 phe17 pte0 pte1 pte2 pte3 pte4 pte5 pte6 pte7 pte8 pte9 pte10 pte11
        have hB_2 := hB_1.trans (hb19.mono hB_1.size)
        have hW_2 := hW_1.trans (hb19.mono hW_1.size)
        have f1a_2 := f1a_1.below hb19
        have f1b_2 := f1b_1.below hb19
        have f1c_2 := f1c_1.below hb19
        have f9x_2 := f9x_1.below hb19
        have f9y_2 := f9y_1.below hb19
        have sp1_2 := sp1_1.below hb19
        have ph_2 := ph_1.below hb19
        have pt_1 := pt_0.below hb19
        clear hb19 hB_1 hW_1 f1a_1 f1b_1 f1c_1 f9x_1 f9y_1 sp1_1 ph_1 pt_0
        obtain ⟨phe0, phe1, phe2, phe3, phe4, phe5, phe6, phe7, phe8, phe9, phe10, phe11, phe12, phe13, phe14, phe15, phe16, phe17⟩ := ph_2.open9
        obtain ⟨pte0, pte1, pte2, pte3, pte4, pte5, pte6, pte7, pte8, pte9, pte10, pte11⟩ := pt_1.open6
        clear ee0 ee1 ee2 ee3 ee4 ee5
        go_wp2_with fail
        refine (qSign _ _ _ _ (by omega) f10_0.q sc HSC.out).mono ?_
        rintro e w20 ⟨rfl, hb20⟩
        clear phe0 phe1 phe2 phe3 phe4 phe5 phe6 phe7 phe8 phe9 phe10 phe11 phe12 phe13 phe14 phe15 phe16 phe17 pte0 pte1 pte2 pte3 pte4 pte5 pte6 pte7 pte8 pte9 pte10 pte11
        have hB_3 := hB_2.trans (hb20.mono hB_2.size)
        have hW_3 := hW_2.trans (hb20.mono hW_2.size)
        have f1a_3 := f1a_2.below hb20
        have f1b_3 := f1b_2.below hb20
        have f1c_3 := f1c_2.below hb20
        have f9x_3 := f9x_2.below hb20
        have f9y_3 := f9y_2.below hb20
        have sp1_3 := sp1_2.below hb20
        have ph_3 := ph_2.below hb20
        have pt_2 := pt_1.below hb20
        have f10_1 := f10_0.below hb20
        clear hb20 hB_2 hW_2 f1a_2 f1b_2 f1c_2 f9x_2 f9y_2 sp1_2 ph_2 pt_1 f10_0
        obtain ⟨pte0, pte1, pte2, pte3, pte4, pte5, pte6, pte7, pte8, pte9, pte10, pte11⟩ := pt_2.open6
        go_wp2_with fail
        refine (cWithin_any po n0 pc P 7 7 x y true _ HPN.out (by omega) (by omega) (by omega) sp1_3 f9x_3 f9y_3 ⟨fun _ => rfl, fun _ => HIN.out⟩).mono ?_
        rintro e w21 ⟨rfl, hb21⟩
        clear pte0 pte1 pte2 pte3 pte4 pte5 pte6 pte7 pte8 pte9 pte10 pte11
        have hB_4 := hB_3.trans (hb21.mono hB_3.size)
        have hW_4 := hW_3.trans (hb21.mono hW_3.size)
        have f1a_4 := f1a_3.below hb21
        have f1b_4 := f1b_3.below hb21
        have f1c_4 := f1c_3.below hb21
        have f9x_4 := f9x_3.below hb21
        have f9y_4 := f9y_3.below hb21
        have sp1_4 := sp1_3.below hb21
        have ph_4 := ph_3.below hb21
        have pt_3 := pt_2.below hb21
        have f10_2 := f10_1.below hb21
        clear hb21 hB_3 hW_3 f1a_3 f1b_3 f1c_3 f9x_3 f9y_3 sp1_3 ph_3 pt_2 f10_1
        go_wp2
        exact ⟨⟨k + 1, by omega, by go_num, hB_4, hW_4⟩, by simp [intOf]; omega⟩
      · obtain rfl : k = n2 := by omega
        go_wp2
        go_ret
        exact ⟨rfl, hB_0⟩
end Go.Proofs.Ytdfabocecpcmcaa
