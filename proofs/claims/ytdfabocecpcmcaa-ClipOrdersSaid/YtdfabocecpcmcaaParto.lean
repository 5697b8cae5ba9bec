/- From the form of the rows to the walks of layer 8: what a Half, and a slice of them, read as. -/
import Derived.Test.YtdfabocecpcmcaaParti
import Derived.Test.YtdfabocecpcmcaaPartn
import Derived.Deep.Slices
import Derived.Deep.Strs
import Derived.Test.YtdfabocecpcmcaaPartl
namespace Go.Proofs.Ytdfabocecpcmcaa
open Go.ChangeShapes Go.WideShapes Go.RowKit Go.MagM
theorem halfCells : Try.prog.cellsOf 30 = 9 := by kernel_rfl
/-- Nine cells that read as a Half. -/
theorem open_half {H : Type} {enc : TypeId × Value → H} {W : World} {n : Nat} {c0 c1 c2 c3 c4 c5 c6 c7 c8 : Value} {x : DataW H × List MemPlace} (hf : DataW.trod enc Try.prog W 0 (fun _ => true) true n 30 [c0, c1, c2, c3, c4, c5, c6, c7, c8] = some x) :
    ∃ ma oa na ca pa ka da mb ob nb cb pb kb db mc oc nc cc pc kc dc La Xa Da Lb Xb Db Lc Xc Dc, c0 = .bool ma ∧ c1 = .slice oa na ca ∧ c2 = .slice pa ka da ∧ c3 = .bool mb ∧ c4 = .slice ob nb cb ∧ c5 = .slice pb kb db ∧ c6 = .bool mc ∧ c7 = .slice oc nc cc ∧ c8 = .slice pc kc dc ∧ FD W (.agg #[.bool ma, .slice oa na ca, .slice pa ka da]) La Xa Da ∧ FD W (.agg #[.bool mb, .slice ob nb cb, .slice pb kb db]) Lb Xb Db ∧ FD W (.agg #[.bool mc, .slice oc nc cc, .slice pc kc dc]) Lc Xc Dc := by
  obtain ⟨y0, y1, y2, n, _, _, h0, h1, h2⟩ := Go.Deep.trod_struct3 Try.underlying30 hf
  have h0' : DataW.trod enc Try.prog W 0 (fun _ => true) true n 28 [c0, c1, c2] = some y0 := by
    rw [← h0]; simp [cells27]
  have h1' : DataW.trod enc Try.prog W 0 (fun _ => true) true n 28 [c3, c4, c5] = some y1 := by
    rw [← h1]; simp [cells27]
  have h2' : DataW.trod enc Try.prog W 0 (fun _ => true) true n 28 [c6, c7, c8] = some y2 := by
    rw [← h2]; simp [cells27]
  obtain ⟨ma, oa, na, ca, pa, ka, da, La, Xa, Da, rfl, rfl, rfl, hA⟩ := open_frac h0'
  obtain ⟨mb, ob, nb, cb, pb, kb, db, Lb, Xb, Db, rfl, rfl, rfl, hB⟩ := open_frac h1'
  obtain ⟨mc, oc, nc, cc, pc, kc, dc, Lc, Xc, Dc, rfl, rfl, rfl, hC⟩ := open_frac h2'
  exact ⟨ma, oa, na, ca, pa, ka, da, mb, ob, nb, cb, pb, kb, db, mc, oc, nc, cc, pc, kc, dc, La, Xa, Da, Lb, Xb, Db, Lc, Xc, Dc, rfl, rfl, rfl, rfl, rfl, rfl, rfl, rfl, rfl, hA, hB, hC⟩
theorem list9_of {l : List Value} (h : l.length = 9) : ∃ c0 c1 c2 c3 c4 c5 c6 c7 c8, l = [c0, c1, c2, c3, c4, c5, c6, c7, c8] := by
  match l, h with
  | [c0, c1, c2, c3, c4, c5, c6, c7, c8], _ => exact ⟨c0, c1, c2, c3, c4, c5, c6, c7, c8, rfl⟩
theorem array9_of {a : Array Value} (h : a.size = 9) : ∃ c0 c1 c2 c3 c4 c5 c6 c7 c8, a = #[c0, c1, c2, c3, c4, c5, c6, c7, c8] := by
  obtain ⟨c0, c1, c2, c3, c4, c5, c6, c7, c8, e⟩ := list9_of (l := a.toList) (by simpa using h)
  exact ⟨c0, c1, c2, c3, c4, c5, c6, c7, c8, by apply Array.ext'; simpa using e⟩
set_option maxRecDepth 100000 in
/-- What a Half reads as. -/
theorem view_half {H : Type} {enc : TypeId × Value → H} {W : World} {b0 : Nat} {v : Value} {d : DataW H} {p : List MemPlace} (hv : Value.okWide Try.prog W .any b0 30 v)
    (h : DataW.Trod enc Try.prog W 0 (fun _ => true) true 30 v d p) :
    ∃ ma oa na ca pa ka da mb ob nb cb pb kb db mc oc nc cc pc kc dc La Xa Da Lb Xb Db Lc Xc Dc, v = .agg #[.bool ma, .slice oa na ca, .slice pa ka da, .bool mb, .slice ob nb cb, .slice pb kb db, .bool mc, .slice oc nc cc, .slice pc kc dc] ∧ FD W (.agg #[.bool ma, .slice oa na ca, .slice pa ka da]) La Xa Da ∧ FD W (.agg #[.bool mb, .slice ob nb cb, .slice pb kb db]) Lb Xb Db ∧ FD W (.agg #[.bool mc, .slice oc nc cc, .slice pc kc dc]) Lc Xc Dc := by
  obtain ⟨cs, rfl, hsz⟩ := okWide_struct Try.underlying30 hv
  obtain ⟨c0, c1, c2, c3, c4, c5, c6, c7, c8, rfl⟩ := array9_of (hsz.trans halfCells)
  obtain ⟨fuel, hf⟩ := h
  obtain ⟨ma, oa, na, ca, pa, ka, da, mb, ob, nb, cb, pb, kb, db, mc, oc, nc, cc, pc, kc, dc, La, Xa, Da, Lb, Xb, Db, Lc, Xc, Dc, rfl, rfl, rfl, rfl, rfl, rfl, rfl, rfl, rfl, hA, hB, hC⟩ := open_half (by simpa [Value.cells] using hf)
  exact ⟨ma, oa, na, ca, pa, ka, da, mb, ob, nb, cb, pb, kb, db, mc, oc, nc, cc, pc, kc, dc, La, Xa, Da, Lb, Xb, Db, Lc, Xc, Dc, rfl, hA, hB, hC⟩
set_option maxRecDepth 100000 in
/-- What a slice of Halves reads as. -/
theorem view_halves {H : Type} {enc : TypeId × Value → H} {W : World} {b0 : Nat} {v : Value} {d : DataW H} {p : List MemPlace} (hv : Value.okWide Try.prog W .any b0 22 v)
    (h : DataW.Trod enc Try.prog W 0 (fun _ => true) true 22 v d p) :
    ∃ ao n c l, v = .slice ao n c ∧ l.length = n ∧ n ≤ c ∧ HRaws W ao l := by
  obtain ⟨ao, n, c, rfl⟩ := okWide_slice Try.underlying22 hv
  obtain ⟨fuel, hf⟩ := h
  rcases Go.Deep.open_slice Try.underlying22 hf with ⟨hcs, _⟩ | ⟨a, len, cap, m, k, D, Pl, hcs, _, hlc, _, hm, _, hx⟩
  · simp [Value.cells] at hcs
    obtain ⟨rfl, rfl, rfl⟩ := hcs
    exact ⟨_, _, _, [], rfl, rfl, Nat.le_refl _, fun i Xa Da Xb Db Xc Dc hi => by simp at hi⟩
  · simp [Value.cells] at hcs
    obtain ⟨rfl, rfl, rfl⟩ := hcs
    simp only [if_true] at hm
    subst hm
    obtain ⟨ab, ao, as'⟩ := a
    have hs : 0 < n → as' = none := fun h0 => by
      obtain ⟨cs', h1, _⟩ := hx 0 (by omega)
      rw [halfCells] at h1
      obtain ⟨_, hlen, hcell⟩ := World.cells?_some h1
      obtain ⟨c0, c1, c2, c3, c4, c5, c6, c7, c8, rfl⟩ := list9_of hlen
      have hsp := World.cell?_spot (hcell 0 (by omega))
      simpa [Addr.add] using hsp
    have each : ∀ i, i < n → ∃ q : RawH, ∃ ma oa na ca pa ka da mb ob nb cb pb kb db mc oc nc cc pc kc dc, as' = none ∧ At9 W ab (ao + i * 9) (.bool ma) (.slice oa na ca) (.slice pa ka da) (.bool mb) (.slice ob nb cb) (.slice pb kb db) (.bool mc) (.slice oc nc cc) (.slice pc kc dc) ∧
        (∃ L, FD W (.agg #[.bool ma, .slice oa na ca, .slice pa ka da]) L q.1 q.2.1) ∧ (∃ L, FD W (.agg #[.bool mb, .slice ob nb cb, .slice pb kb db]) L q.2.2.1 q.2.2.2.1) ∧ (∃ L, FD W (.agg #[.bool mc, .slice oc nc cc, .slice pc kc dc]) L q.2.2.2.2.1 q.2.2.2.2.2) := by
      intro i hi
      obtain ⟨cs', h1, h2⟩ := hx i (by omega)
      rw [halfCells] at h1
      obtain ⟨_, hlen, hcell⟩ := World.cells?_some h1
      obtain ⟨c0, c1, c2, c3, c4, c5, c6, c7, c8, rfl⟩ := list9_of hlen
      obtain ⟨ma, oa, na, ca, pa, ka, da, mb, ob, nb, cb, pb, kb, db, mc, oc, nc, cc, pc, kc, dc, La, Xa, Da, Lb, Xb, Db, Lc, Xc, Dc, rfl, rfl, rfl, rfl, rfl, rfl, rfl, rfl, rfl, hA, hB, hC⟩ := open_half h2
      obtain rfl := hs (by omega)
      rw [addr_add] at hcell
      refine ⟨(Xa, Da, Xb, Db, Xc, Dc), ma, oa, na, ca, pa, ka, da, mb, ob, nb, cb, pb, kb, db, mc, oc, nc, cc, pc, kc, dc, rfl, ⟨?_, ?_, ?_, ?_, ?_, ?_, ?_, ?_, ?_⟩, ⟨La, hA⟩, ⟨Lb, hB⟩, ⟨Lc, hC⟩⟩
      · have := hcell 0 (by omega); rw [addr_add] at this; exact this
      · have := hcell 1 (by omega); rw [addr_add] at this; exact this
      · have := hcell 2 (by omega); rw [addr_add] at this; exact this
      · have := hcell 3 (by omega); rw [addr_add] at this; exact this
      · have := hcell 4 (by omega); rw [addr_add] at this; exact this
      · have := hcell 5 (by omega); rw [addr_add] at this; exact this
      · have := hcell 6 (by omega); rw [addr_add] at this; exact this
      · have := hcell 7 (by omega); rw [addr_add] at this; exact this
      · have := hcell 8 (by omega); rw [addr_add] at this; exact this
    obtain ⟨f, hfa⟩ := Go.Deep.choose_lt each
    refine ⟨_, _, _, (List.range n).map f, rfl, by simp, hlc, fun i Xa Da Xb Db Xc Dc hi => ?_⟩
    have hin : i < n := by have := (List.getElem?_eq_some_iff.1 hi).1; simpa using this
    have hq : f i = (Xa, Da, Xb, Db, Xc, Dc) := by
      rw [List.getElem?_map, List.getElem?_range hin] at hi
      simpa using hi
    obtain ⟨ma, oa, na, ca, pa, ka, da, mb, ob, nb, cb, pb, kb, db, mc, oc, nc, cc, pc, kc, dc, rfl, h1, h2, h3, h4⟩ := hfa i hin
    rw [hq] at h2 h3 h4
    exact ⟨ab, ao, ma, oa, na, ca, pa, ka, da, mb, ob, nb, cb, pb, kb, db, mc, oc, nc, cc, pc, kc, dc, rfl, h1, h2, h3, h4⟩
end Go.Proofs.Ytdfabocecpcmcaa
/- The statements' own shape. -/
namespace Go.Proofs.Ytdfabocecpcmcaa
open Go.RowKit Go.MagM
set_option maxRecDepth 100000 in
set_option maxHeartbeats 16000000 in
theorem cshape_any (ao : Option Addr) (n c : Nat) (l : List RawH) (w : World) (hn : l.length = n) (hc : n ≤ c) (hr : HRaws w ao l) :
    Calls Try.prog 9 #[.slice ao n c] w fun e w' => AnsP w w' e := by
  have hB_0 := Below.refl w.heap.size w
  obtain ⟨h, uo, e1, e2, h5, hl, hraw⟩ := half_cut hn hc w hr
  have HR := Lib.hid hraw; have HL := Lib.hid hl; clear hraw hl hr hn
  go_enter Try.func9, Try.ntmps9
  go_wp2_with fail
  refine (box20n _).mono ?_
  rintro e w1 ⟨ao1, ac1, rfl, sp1_0, fr1, hb1⟩
  have hB_1 := hB_0.trans (hb1.mono hB_0.size)
  clear hb1 hB_0
  go_wp2
  go_loopw [3, 14] (fun pv iv wr => ∃ k n0 : Nat, ∃ P : List (Rat × Rat), ∃ ao c, k ≤ h ∧ iv = .int .i64 k ∧ pv = .slice ao n0 c ∧ P.length = n0 ∧ n0 ≤ 4 + 2 * k ∧ Poly P ∧ (∀ a, ao = some a → w.heap.size ≤ a.block) ∧ SpotsR wr ao 7 P ∧ Below w.heap.size w wr) (fun _ iv _ => h - (intOf iv).toNat)
  case atStart => exact ⟨0, 4, boxQ ((20 : Int) : Rat), _, _, Nat.zero_le _, rfl, rfl, rfl, by omega, box_poly (by omega) (by show 20 < B; unfold B; omega), fr1, sp1_0, hB_1⟩
  case round =>
    obtain ⟨k, n0, P, po, pc, hk, rfl, rfl, hP, hn0, hpoly, frsp, sp_0, hB_0⟩ := hrel
    have HP := Lib.hid hP; have HPOLY := Lib.hid hpoly; clear hP hpoly
    by_cases hlt : k < h
    · obtain ⟨⟨Xa, Da, Xb, Db, Xc, Dc⟩, hlk⟩ : ∃ q, (l.take h)[k]? = some q := ⟨_, List.getElem?_eq_getElem (by rw [HL.out]; omega)⟩
      obtain ⟨b, o, m1a, o1a, n1a, c1a, p1a, k1a, d1a, m1b, o1b, n1b, c1b, p1b, k1b, d1b, m1c, o1c, n1c, c1c, p1c, k1c, d1c, hao, dd, ⟨La, f1a_0⟩, ⟨Lb, f1b_0⟩, ⟨Lc, f1c_0⟩⟩ := (HR.out.below hB_0) k Xa Da Xb Db Xc Dc hlk
      subst hao
      clear hlk
      obtain ⟨ee0, ee1, ee2, ee3, ee4, ee5, ee6, ee7, ee8⟩ := dd
      have ss1 := tame_small Xa Da; have ss2 := tame_small Xb Db; have ss3 := tame_small Xc Dc
      have SML := Lib.hid (show SmlH (tameQ Xa Da, tameQ Xb Db, tameQ Xc Dc) from ⟨ss1, ss2, ss3⟩)
      clear ss1 ss2 ss3
      have hl1B := hB_0.size
      obtain ⟨w2, hw2, ph_0, hb2, hs2⟩ := new_box wr (wr.heap.size) rfl [.bool m1a, .slice o1a n1a c1a, .slice p1a k1a d1a, .bool m1b, .slice o1b n1b c1b, .slice p1b k1b d1b, .bool m1c, .slice o1c n1c c1c, .slice p1c k1c d1c] 30
      have hb2' : Below wr.heap.size wr w2 := hb2.mono (by omega)
      clear hb2
      have hB_1 := hB_0.trans (hb2'.mono hB_0.size)
      have sp_1 := sp_0.below hb2'
      have f1a_1 := f1a_0.below hb2'
      have f1b_1 := f1b_0.below hb2'
      have f1c_1 := f1c_0.below hb2'
      clear hb2' hB_0 sp_0 f1a_0 f1b_0 f1c_0
      obtain ⟨phe0, phe1, phe2, phe3, phe4, phe5, phe6, phe7, phe8, phe9, phe10, phe11, phe12, phe13, phe14, phe15, phe16, phe17⟩ := ph_0.open9
      go_wp2_with fail
      refine (htame_any La Lb Lc Xa Xb Xc Da Db Dc _ f1a_1 f1b_1 f1c_1).mono ?_
      rintro e w3 ⟨m2a, o2a, n2a, c2a, p2a, k2a, d2a, m2b, o2b, n2b, c2b, p2b, k2b, d2b, m2c, o2c, n2c, c2c, p2c, k2c, d2c, rfl, f2a_0, f2b_0, f2c_0, hb3⟩
      clear phe0 phe1 phe2 phe3 phe4 phe5 phe6 phe7 phe8 phe9 phe10 phe11 phe12 phe13 phe14 phe15 phe16 phe17
      have hB_2 := hB_1.trans (hb3.mono hB_1.size)
      have sp_2 := sp_1.below hb3
      have f1a_2 := f1a_1.below hb3
      have f1b_2 := f1b_1.below hb3
      have f1c_2 := f1c_1.below hb3
      have ph_1 := ph_0.below hb3
      clear hb3 hB_1 sp_1 f1a_1 f1b_1 f1c_1 ph_0
      clear ee0 ee1 ee2 ee3 ee4 ee5 ee6 ee7 ee8
      clear f1a_2 f1b_2 f1c_2 ph_1
      have hl2B := hB_2.size
      obtain ⟨w4, hw4, pg_0, hb4, hs4⟩ := new_box w3 (w3.heap.size) rfl [.bool m2a, .slice o2a n2a c2a, .slice p2a k2a d2a, .bool m2b, .slice o2b n2b c2b, .slice p2b k2b d2b, .bool m2c, .slice o2c n2c c2c, .slice p2c k2c d2c] 30
      have hb4' : Below w3.heap.size w3 w4 := hb4.mono (by omega)
      clear hb4
      have hB_3 := hB_2.trans (hb4'.mono hB_2.size)
      have sp_3 := sp_2.below hb4'
      have f2a_1 := f2a_0.below hb4'
      have f2b_1 := f2b_0.below hb4'
      have f2c_1 := f2c_0.below hb4'
      clear hb4' hB_2 sp_2 f2a_0 f2b_0 f2c_0
      obtain ⟨pge0, pge1, pge2, pge3, pge4, pge5, pge6, pge7, pge8, pge9, pge10, pge11, pge12, pge13, pge14, pge15, pge16, pge17⟩ := pg_0.open9
      by_cases hfl : tameQ Xa Da = 0 ∧ tameQ Xb Db = 0
      · go_wp2_with fail
        refine (hflat_any 1 _ _ _ (by omega) f2a_1.q f2b_1.q true ⟨fun _ => rfl, fun _ => hfl⟩).mono ?_
        rintro e w5 ⟨rfl, hb5⟩
        clear pge0 pge1 pge2 pge3 pge4 pge5 pge6 pge7 pge8 pge9 pge10 pge11 pge12 pge13 pge14 pge15 pge16 pge17
        have hB_4 := hB_3.trans (hb5.mono hB_3.size)
        have sp_4 := sp_3.below hb5
        have f2a_2 := f2a_1.below hb5
        have f2b_2 := f2b_1.below hb5
        have f2c_2 := f2c_1.below hb5
        have pg_1 := pg_0.below hb5
        clear hb5 hB_3 sp_3 f2a_1 f2b_1 f2c_1 pg_0
        go_wp2
        refine ⟨⟨k + 1, n0, P, _, _, by omega, by go_num, rfl, HP.out, by omega, HPOLY.out, frsp, sp_4, hB_4⟩, by simp [intOf]; omega⟩
      · have HF := Lib.hid hfl; clear hfl
        go_wp2_with fail
        refine (hflat_any 1 _ _ _ (by omega) f2a_1.q f2b_1.q false ⟨fun h => absurd h HF.out, fun h => by cases h⟩).mono ?_
        rintro e w5 ⟨rfl, hb5⟩
        clear pge0 pge1 pge2 pge3 pge4 pge5 pge6 pge7 pge8 pge9 pge10 pge11 pge12 pge13 pge14 pge15 pge16 pge17
        have hB_4 := hB_3.trans (hb5.mono hB_3.size)
        have sp_4 := sp_3.below hb5
        have f2a_2 := f2a_1.below hb5
        have f2b_2 := f2b_1.below hb5
        have f2c_2 := f2c_1.below hb5
        have pg_1 := pg_0.below hb5
        clear hb5 hB_3 sp_3 f2a_1 f2b_1 f2c_1 pg_0
        obtain ⟨pge0, pge1, pge2, pge3, pge4, pge5, pge6, pge7, pge8, pge9, pge10, pge11, pge12, pge13, pge14, pge15, pge16, pge17⟩ := pg_1.open9
        have hAB : tameQ Xa Da ≠ 0 ∨ tameQ Xb Db ≠ 0 := by
          by_cases e : tameQ Xa Da = 0
          · exact .inr (fun e2 => HF.out ⟨e, e2⟩)
          · exact .inl e
        have HAB := Lib.hid hAB; clear hAB
        have hws3 := hB_4.size
        go_wp2_with fail
        refine (clipPoly po n0 pc P _ _ _ _ HP.out (by omega) HPOLY.out SML.out HAB.out sp_4 f2a_2.q f2b_2.q f2c_2.q).mono ?_
        rintro e w6 ⟨ao3, ac3, rfl, sp3_0, fr3, hb6⟩
        clear pge0 pge1 pge2 pge3 pge4 pge5 pge6 pge7 pge8 pge9 pge10 pge11 pge12 pge13 pge14 pge15 pge16 pge17
        have hB_5 := hB_4.trans (hb6.mono hB_4.size)
        have sp_5 := sp_4.below hb6
        have f2a_3 := f2a_2.below hb6
        have f2b_3 := f2b_2.below hb6
        have f2c_3 := f2c_2.below hb6
        have pg_2 := pg_1.below hb6
        clear hb6 hB_4 sp_4 f2a_2 f2b_2 f2c_2 pg_1
        have hcl := clip_len (A := tameQ Xa Da) (B := tameQ Xb Db) (C := tameQ Xc Dc) HAB.out HPOLY.out.1
        rw [HP.out] at hcl
        generalize hLn : (clipQ (tameQ Xa Da) (tameQ Xb Db) (tameQ Xc Dc) P).length = n3 at *
        have HLN := Lib.hid hLn; clear hLn
        go_wp2
        refine ⟨⟨k + 1, n3, _, _, _, by omega, by go_num, rfl, HLN.out, by omega, HPOLY.out.clip HAB.out SML.out, fun a ha => by have h1 := fr3 a ha; have h2 := hws3; omega, sp3_0, hB_5⟩, by simp [intOf]; omega⟩
    · obtain rfl : k = h := by omega
      go_wp2
      go_ret
      have hP := HP.out
      exact ⟨po, pc, P, by rw [hP]; rfl, by omega, HPOLY.out, sp_0, frsp, hB_0⟩
end Go.Proofs.Ytdfabocecpcmcaa
/- The statement ClipHalves, walked. -/
namespace Go.Proofs.Ytdfabocecpcmcaa
open Go.RowKit Go.MagM
theorem corner_clip {A B C : Rat} {P : List (Rat × Rat)} (hP : Conv0 P) {k : Nat} {x y : Rat} (h : (clipQ A B C P)[k]? = some (x, y)) : InL P (x, y) ∧ fvQ A B C (x, y) ≤ 0 := by
  have hk := (List.getElem?_eq_some_iff.1 h).1
  have hne : clipQ A B C P ≠ [] := fun e => by rw [e] at hk; simp at hk
  have hc : Conv P := by
    rcases hP with rfl | h
    · exact absurd clip_nil hne
    · exact h
  have h1 := corner_in (clip_conv hc hne) hk
  rw [at_cor0 h] at h1
  exact (clip_points hc hne _).1 h1
set_option maxRecDepth 100000 in
set_option maxHeartbeats 32000000 in
theorem ClipHalves_walk {ao : Option Addr} {n c : Nat} {l : List RawH} {ham : Bool} {hao : Option Addr} {han hac : Nat} {hap : Option Addr} {hak had : Nat} {hbm : Bool} {hbo : Option Addr} {hbn hbc : Nat} {hbp : Option Addr} {hbk hbd : Nat} {hcm : Bool} {hco : Option Addr} {hcn hcc : Nat} {hcp : Option Addr} {hck hcd : Nat} {Lha : Nat} {Xha : Int} {Dha : Nat} {Lhb : Nat} {Xhb : Int} {Dhb : Nat} {Lhc : Nat} {Xhc : Int} {Dhc : Nat} (w : World) (hn : l.length = n) (hc : n ≤ c) (hr : HRaws w ao l) (fha_0 : FD w (.agg #[.bool ham, .slice hao han hac, .slice hap hak had]) Lha Xha Dha) (fhb_0 : FD w (.agg #[.bool hbm, .slice hbo hbn hbc, .slice hbp hbk hbd]) Lhb Xhb Dhb) (fhc_0 : FD w (.agg #[.bool hcm, .slice hco hcn hcc, .slice hcp hck hcd]) Lhc Xhc Dhc) :
    Calls Try.prog 3 #[.slice ao n c, .agg #[.bool ham, .slice hao han hac, .slice hap hak had, .bool hbm, .slice hbo hbn hbc, .slice hbp hbk hbd, .bool hcm, .slice hco hcn hcc, .slice hcp hck hcd]] w fun e w' => e = .returned (.bool true) ∧ Below w.heap.size w w' := by
  have hB_0 := Below.refl w.heap.size w
  have HRR := Lib.hid hr; have HNN := Lib.hid hn; clear hr hn
  obtain ⟨w1, hw1, ph_0, hb1, hs1⟩ := new_box w (w.heap.size) rfl [.bool ham, .slice hao han hac, .slice hap hak had, .bool hbm, .slice hbo hbn hbc, .slice hbp hbk hbd, .bool hcm, .slice hco hcn hcc, .slice hcp hck hcd] 30
  have hb1' : Below w.heap.size w w1 := hb1.mono (by omega)
  clear hb1
  have hB_1 := hB_0.trans (hb1'.mono hB_0.size)
  have fha_1 := fha_0.below hb1'
  have fhb_1 := fhb_0.below hb1'
  have fhc_1 := fhc_0.below hb1'
  clear hb1' hB_0 fha_0 fhb_0 fhc_0
  go_enter Try.func3, Try.ntmps3
  go_wp2_with fail
  refine (cfit_any _).mono ?_
  rintro e w2 ⟨rfl, hb2⟩
  have hB_2 := hB_1.trans (hb2.mono hB_1.size)
  have fha_2 := fha_1.below hb2
  have fhb_2 := fhb_1.below hb2
  have fhc_2 := fhc_1.below hb2
  have ph_1 := ph_0.below hb2
  clear hb2 hB_1 fha_1 fhb_1 fhc_1 ph_0
  have hphl := ph_1.lt
  go_wp2_with fail
  refine (cshape_any ao n c l _ HNN.out hc (HRR.out.below hB_2)).mono ?_
  rintro e w3 ⟨po, pc, P, rfl, hPl, hPoly, sp1_0, frsp1, hb3⟩
  have hB_3 := hB_2.trans (hb3.mono hB_2.size)
  have fha_3 := fha_2.below hb3
  have fhb_3 := fhb_2.below hb3
  have fhc_3 := fhc_2.below hb3
  have ph_2 := ph_1.below hb3
  clear hb3 hB_2 fha_2 fhb_2 fhc_2 ph_1
  generalize hPn : P.length = n0 at *
  have HPN := Lib.hid hPn; have HPOLY := Lib.hid hPoly; clear hPn hPoly
  obtain ⟨phe0, phe1, phe2, phe3, phe4, phe5, phe6, phe7, phe8, phe9, phe10, phe11, phe12, phe13, phe14, phe15, phe16, phe17⟩ := ph_2.open9
  have SML := Lib.hid (show SmlH (tameQ Xha Dha, tameQ Xhb Dhb, tameQ Xhc Dhc) from ⟨tame_small _ _, tame_small _ _, tame_small _ _⟩)
  go_wp2_with fail
  refine (htame_any Lha Lhb Lhc Xha Xhb Xhc Dha Dhb Dhc _ fha_3 fhb_3 fhc_3).mono ?_
  rintro e w4 ⟨m1a, o1a, n1a, c1a, p1a, k1a, d1a, m1b, o1b, n1b, c1b, p1b, k1b, d1b, m1c, o1c, n1c, c1c, p1c, k1c, d1c, rfl, f1a_0, f1b_0, f1c_0, hb4⟩
  clear phe0 phe1 phe2 phe3 phe4 phe5 phe6 phe7 phe8 phe9 phe10 phe11 phe12 phe13 phe14 phe15 phe16 phe17
  have hB_4 := hB_3.trans (hb4.mono hB_3.size)
  have fha_4 := fha_3.below hb4
  have fhb_4 := fhb_3.below hb4
  have fhc_4 := fhc_3.below hb4
  have ph_3 := ph_2.below hb4
  have sp1_1 := sp1_0.below hb4
  clear hb4 hB_3 fha_3 fhb_3 fhc_3 ph_2 sp1_0
  obtain ⟨phe0, phe1, phe2, phe3, phe4, phe5, phe6, phe7, phe8, phe9, phe10, phe11, phe12, phe13, phe14, phe15, phe16, phe17⟩ := ph_3.open9
  clear fha_4 fhb_4 fhc_4
  clear phe0 phe1 phe2 phe3 phe4 phe5 phe6 phe7 phe8 phe9 phe10 phe11 phe12 phe13 phe14 phe15 phe16 phe17
  obtain ⟨sf1a, sf1b, sf1c, sf1d, sf1e, sf1f, sf1g, sf1h, sf1i, sf1j, sf1k, sf1l, sf1m, sf1n, sf1o, sf1p, sf1q, sf1r⟩ := ph_3.open9
  obtain ⟨sg1a, sg1b, sg1c, sg1d, sg1e, sg1f, sg1g, sg1h, sg1i, sg1j, sg1k, sg1l, sg1m, sg1n, sg1o, sg1p⟩ := Box.put9 ph_3 (.bool m1a) (.slice o1a n1a c1a) (.slice p1a k1a d1a) (.bool m1b) (.slice o1b n1b c1b) (.slice p1b k1b d1b) (.bool m1c) (.slice o1c n1c c1c)
  have hB_5 := below_setAll hB_4 (g := w.heap.size) (by omega) [.bool m1a, .slice o1a n1a c1a, .slice p1a k1a d1a, .bool m1b, .slice o1b n1b c1b, .slice p1b k1b d1b, .bool m1c, .slice o1c n1c c1c, .slice p1c k1c d1c]
  have sp1_2 := sp1_1.setBox ph_3 (noWordB _ rfl) [.bool m1a, .slice o1a n1a c1a, .slice p1a k1a d1a, .bool m1b, .slice o1b n1b c1b, .slice p1b k1b d1b, .bool m1c, .slice o1c n1c c1c, .slice p1c k1c d1c] rfl (fun a ha => by have h1 := frsp1 a ha; omega)
  have f1a_1 := f1a_0.setAll ph_3 (noWordB _ rfl) [.bool m1a, .slice o1a n1a c1a, .slice p1a k1a d1a, .bool m1b, .slice o1b n1b c1b, .slice p1b k1b d1b, .bool m1c, .slice o1c n1c c1c, .slice p1c k1c d1c] rfl
  have f1b_1 := f1b_0.setAll ph_3 (noWordB _ rfl) [.bool m1a, .slice o1a n1a c1a, .slice p1a k1a d1a, .bool m1b, .slice o1b n1b c1b, .slice p1b k1b d1b, .bool m1c, .slice o1c n1c c1c, .slice p1c k1c d1c] rfl
  have f1c_1 := f1c_0.setAll ph_3 (noWordB _ rfl) [.bool m1a, .slice o1a n1a c1a, .slice p1a k1a d1a, .bool m1b, .slice o1b n1b c1b, .slice p1b k1b d1b, .bool m1c, .slice o1c n1c c1c, .slice p1c k1c d1c] rfl
  have ph_4 := ph_3.setAll [.bool m1a, .slice o1a n1a c1a, .slice p1a k1a d1a, .bool m1b, .slice o1b n1b c1b, .slice p1b k1b d1b, .bool m1c, .slice o1c n1c c1c, .slice p1c k1c d1c] rfl
  simp only [setAll, Nat.zero_add, Nat.reduceAdd] at hB_5 ph_4 sp1_2 f1a_1 f1b_1 f1c_1
  obtain ⟨phe0, phe1, phe2, phe3, phe4, phe5, phe6, phe7, phe8, phe9, phe10, phe11, phe12, phe13, phe14, phe15, phe16, phe17⟩ := ph_4.open9
  go_wp2_with fail
  clear sf1a sf1b sf1c sf1d sf1e sf1f sf1g sf1h sf1i sf1j sf1k sf1l sf1m sf1n sf1o sf1p sf1q sf1r sg1a sg1b sg1c sg1d sg1e sg1f sg1g sg1h sg1i sg1j sg1k sg1l sg1m sg1n sg1o sg1p hB_4 sp1_1 f1a_0 f1b_0 f1c_0 ph_3
  generalize (World.setCell (World.setCell (World.setCell (World.setCell (World.setCell (World.setCell (World.setCell (World.setCell (World.setCell w4 ⟨w.heap.size, 0, none⟩ (.bool m1a)) ⟨w.heap.size, 1, none⟩ (.slice o1a n1a c1a)) ⟨w.heap.size, 2, none⟩ (.slice p1a k1a d1a)) ⟨w.heap.size, 3, none⟩ (.bool m1b)) ⟨w.heap.size, 4, none⟩ (.slice o1b n1b c1b)) ⟨w.heap.size, 5, none⟩ (.slice p1b k1b d1b)) ⟨w.heap.size, 6, none⟩ (.bool m1c)) ⟨w.heap.size, 7, none⟩ (.slice o1c n1c c1c)) ⟨w.heap.size, 8, none⟩ (.slice p1c k1c d1c)) = w5 at *
  by_cases hfl1 : tameQ Xha Dha = 0 ∧ tameQ Xhb Dhb = 0
  · go_wp2_with fail
    refine (hflat_any 1 _ _ _ (by omega) f1a_1.q f1b_1.q true ⟨fun _ => rfl, fun _ => hfl1⟩).mono ?_
    rintro e w6 ⟨rfl, hb6⟩
    clear phe0 phe1 phe2 phe3 phe4 phe5 phe6 phe7 phe8 phe9 phe10 phe11 phe12 phe13 phe14 phe15 phe16 phe17
    have hB_6 := hB_5.trans (hb6.mono hB_5.size)
    have ph_5 := ph_4.below hb6
    have sp1_3 := sp1_2.below hb6
    have f1a_2 := f1a_1.below hb6
    have f1b_2 := f1b_1.below hb6
    have f1c_2 := f1c_1.below hb6
    clear hb6 hB_5 ph_4 sp1_2 f1a_1 f1b_1 f1c_1
    go_wp2
    go_ret
    exact ⟨rfl, hB_6⟩
  · have hAB : tameQ Xha Dha ≠ 0 ∨ tameQ Xhb Dhb ≠ 0 := by
      by_cases e : tameQ Xha Dha = 0
      · exact .inr (fun e2 => hfl1 ⟨e, e2⟩)
      · exact .inl e
    have HAB1 := Lib.hid hAB; have HF1 := Lib.hid hfl1; clear hAB hfl1
    go_wp2_with fail
    refine (hflat_any 1 _ _ _ (by omega) f1a_1.q f1b_1.q false ⟨fun h => absurd h HF1.out, fun h => by cases h⟩).mono ?_
    rintro e w6 ⟨rfl, hb6⟩
    clear phe0 phe1 phe2 phe3 phe4 phe5 phe6 phe7 phe8 phe9 phe10 phe11 phe12 phe13 phe14 phe15 phe16 phe17
    have hB_6 := hB_5.trans (hb6.mono hB_5.size)
    have ph_5 := ph_4.below hb6
    have sp1_3 := sp1_2.below hb6
    have f1a_2 := f1a_1.below hb6
    have f1b_2 := f1b_1.below hb6
    have f1c_2 := f1c_1.below hb6
    clear hb6 hB_5 ph_4 sp1_2 f1a_1 f1b_1 f1c_1
    obtain ⟨phe0, phe1, phe2, phe3, phe4, phe5, phe6, phe7, phe8, phe9, phe10, phe11, phe12, phe13, phe14, phe15, phe16, phe17⟩ := ph_5.open9
    go_wp2
    have SMN := Lib.hid (show SmlH (-(tameQ Xha Dha), -(tameQ Xhb Dhb), -(tameQ Xhc Dhc)) from ⟨sml_neg SML.out.1, sml_neg SML.out.2.1, sml_neg SML.out.2.2⟩)
    have HABN := Lib.hid (show -(tameQ Xha Dha) ≠ 0 ∨ -(tameQ Xhb Dhb) ≠ 0 from HAB1.out.elim (fun h => .inl (fun e => h (by grind))) (fun h => .inr (fun e => h (by grind))))
    clear phe0 phe1 phe2 phe3 phe4 phe5 phe6 phe7 phe8 phe9 phe10 phe11 phe12 phe13 phe14 phe15 phe16 phe17
    have hB_7 := hB_6.drew'
    have ph_6 := ph_5.drew
    have sp1_4 := sp1_3.drew
    have f1a_3 := f1a_2.drew
    have f1b_3 := f1b_2.drew
    have f1c_3 := f1c_2.drew
    clear hB_6 ph_5 sp1_3 f1a_2 f1b_2 f1c_2
    go_region_held3 (fun w' => w'.cell? ⟨w.heap.size, 0, none⟩ = some (.bool m1a) ∧ w'.cell? ⟨w.heap.size, 1, none⟩ = some (.slice o1a n1a c1a) ∧ w'.cell? ⟨w.heap.size, 2, none⟩ = some (.slice p1a k1a d1a) ∧ w'.cell? ⟨w.heap.size, 3, none⟩ = some (.bool m1b) ∧ w'.cell? ⟨w.heap.size, 4, none⟩ = some (.slice o1b n1b c1b) ∧ w'.cell? ⟨w.heap.size, 5, none⟩ = some (.slice p1b k1b d1b) ∧ w'.cell? ⟨w.heap.size, 6, none⟩ = some (.bool m1c) ∧ w'.cell? ⟨w.heap.size, 7, none⟩ = some (.slice o1c n1c c1c) ∧ w'.cell? ⟨w.heap.size, 8, none⟩ = some (.slice p1c k1c d1c))
      (first | with_reducible exact ⟨ph_6.c0, ph_6.c1, ph_6.c2, ph_6.c3, ph_6.c4, ph_6.c5, ph_6.c6, ph_6.c7, ph_6.c8⟩ | with_reducible exact ⟨ph_7.c0, ph_7.c1, ph_7.c2, ph_7.c3, ph_7.c4, ph_7.c5, ph_7.c6, ph_7.c7, ph_7.c8⟩ | with_reducible exact ⟨ph_8.c0, ph_8.c1, ph_8.c2, ph_8.c3, ph_8.c4, ph_8.c5, ph_8.c6, ph_8.c7, ph_8.c8⟩ | with_reducible exact ⟨ph_9.c0, ph_9.c1, ph_9.c2, ph_9.c3, ph_9.c4, ph_9.c5, ph_9.c6, ph_9.c7, ph_9.c8⟩ | fail)
      (first
        | (go_at_call 12; (with_reducible refine (clipPoly po n0 pc P _ _ _ _ HPN.out (by omega) HPOLY.out SML.out HAB1.out sp1_4 f1a_3.q f1b_3.q f1c_3.q).mono ?_); rintro e w7 ⟨ao2, ac2, rfl, sp2_0, frsp2, hb7⟩; have hB_8 := hB_7.trans (hb7.mono hB_7.size); have ph_7 := ph_6.below hb7; have sp1_5 := sp1_4.below hb7; have f1a_4 := f1a_3.below hb7; have f1b_4 := f1b_3.below hb7; have f1c_4 := f1c_3.below hb7; clear hb7 hB_7 ph_6 sp1_4 f1a_3 f1b_3 f1c_3)
        | (go_at_call 13; (with_reducible refine (hturned_any _ _ _ _ f1a_4.q f1b_4.q f1c_4.q).mono ?_); rintro e w8 ⟨m3a, o3a, n3a, c3a, p3a, k3a, d3a, m3b, o3b, n3b, c3b, p3b, k3b, d3b, m3c, o3c, n3c, c3c, p3c, k3c, d3c, rfl, f3a_0, f3b_0, f3c_0, hb8⟩; have hB_9 := hB_8.trans (hb8.mono hB_8.size); have ph_8 := ph_7.below hb8; have sp1_6 := sp1_5.below hb8; have f1a_5 := f1a_4.below hb8; have f1b_5 := f1b_4.below hb8; have f1c_5 := f1c_4.below hb8; have sp2_1 := sp2_0.below hb8; clear hb8 hB_8 ph_7 sp1_5 f1a_4 f1b_4 f1c_4 sp2_0)
        | (go_at_call 12; (with_reducible refine (clipPoly po n0 pc P _ _ _ _ HPN.out (by omega) HPOLY.out SMN.out HABN.out sp1_6 f3a_0.q f3b_0.q f3c_0.q).mono ?_); rintro e w9 ⟨ao4, ac4, rfl, sp4_0, frsp4, hb9⟩; have hB_10 := hB_9.trans (hb9.mono hB_9.size); have ph_9 := ph_8.below hb9; have sp1_7 := sp1_6.below hb9; have f1a_6 := f1a_5.below hb9; have f1b_6 := f1b_5.below hb9; have f1c_6 := f1c_5.below hb9; have sp2_2 := sp2_1.below hb9; have f3a_1 := f3a_0.below hb9; have f3b_1 := f3b_0.below hb9; have f3c_1 := f3c_0.below hb9; clear hb9 hB_9 ph_8 sp1_6 f1a_5 f1b_5 f1c_5 sp2_1 f3a_0 f3b_0 f3c_0))
    have hcl2 := clip_len (l := P) (HAB1.out) (C := tameQ Xhc Dhc) HPOLY.out.1
    rw [HPN.out] at hcl2
    generalize hLn : (clipQ (tameQ Xha Dha) (tameQ Xhb Dhb) (tameQ Xhc Dhc) P).length = n2 at *
    have HN2 := Lib.hid hLn; clear hLn
    have hcl4 := clip_len (l := P) (HABN.out) (C := -(tameQ Xhc Dhc)) HPOLY.out.1
    rw [HPN.out] at hcl4
    generalize hLn : (clipQ (-(tameQ Xha Dha)) (-(tameQ Xhb Dhb)) (-(tameQ Xhc Dhc)) P).length = n4 at *
    have HN4 := Lib.hid hLn; clear hLn
    clear f3a_1
    clear f3b_1
    clear f3c_1
    go_wp2_with fail
    refine (cConvex_yes po n0 pc _ 7 _ HPN.out (by omega) (by omega) sp1_7 HPOLY.out.1).mono ?_
    rintro e w10 ⟨rfl, hb10⟩
    have hB_11 := hB_10.trans (hb10.mono hB_10.size)
    have ph_10 := ph_9.below hb10
    have sp1_8 := sp1_7.below hb10
    have f1a_7 := f1a_6.below hb10
    have f1b_7 := f1b_6.below hb10
    have f1c_7 := f1c_6.below hb10
    have sp2_3 := sp2_2.below hb10
    have sp4_1 := sp4_0.below hb10
    clear hb10 hB_10 ph_9 sp1_7 f1a_6 f1b_6 f1c_6 sp2_2 sp4_0
    go_wp2_with fail
    refine (cConvex_yes ao2 n2 ac2 _ 7 _ HN2.out (by omega) (by omega) sp2_3 (clip_conv0 HPOLY.out.1)).mono ?_
    rintro e w11 ⟨rfl, hb11⟩
    have hB_12 := hB_11.trans (hb11.mono hB_11.size)
    have ph_11 := ph_10.below hb11
    have sp1_9 := sp1_8.below hb11
    have f1a_8 := f1a_7.below hb11
    have f1b_8 := f1b_7.below hb11
    have f1c_8 := f1c_7.below hb11
    have sp2_4 := sp2_3.below hb11
    have sp4_2 := sp4_1.below hb11
    clear hb11 hB_11 ph_10 sp1_8 f1a_7 f1b_7 f1c_7 sp2_3 sp4_1
    go_wp2_with fail
    refine (cConvex_yes ao4 n4 ac4 _ 7 _ HN4.out (by omega) (by omega) sp4_2 (clip_conv0 HPOLY.out.1)).mono ?_
    rintro e w12 ⟨rfl, hb12⟩
    have hB_13 := hB_12.trans (hb12.mono hB_12.size)
    have ph_12 := ph_11.below hb12
    have sp1_10 := sp1_9.below hb12
    have f1a_9 := f1a_8.below hb12
    have f1b_9 := f1b_8.below hb12
    have f1c_9 := f1c_8.below hb12
    have sp2_5 := sp2_4.below hb12
    have sp4_3 := sp4_2.below hb12
    clear hb12 hB_12 ph_11 sp1_9 f1a_8 f1b_8 f1c_8 sp2_4 sp4_2
    go_wp2_with fail
    refine (sArea2_any ao2 n2 ac2 _ 7 _ HN2.out (by omega) (by omega) sp2_5.spots).mono ?_
    rintro e w13 ⟨m5, o5, n5, c5, p5, k5, d5, rfl, f5_0, hb13⟩
    have hB_14 := hB_13.trans (hb13.mono hB_13.size)
    have ph_13 := ph_12.below hb13
    have sp1_11 := sp1_10.below hb13
    have f1a_10 := f1a_9.below hb13
    have f1b_10 := f1b_9.below hb13
    have f1c_10 := f1c_9.below hb13
    have sp2_6 := sp2_5.below hb13
    have sp4_4 := sp4_3.below hb13
    clear hb13 hB_13 ph_12 sp1_10 f1a_9 f1b_9 f1c_9 sp2_5 sp4_3
    go_wp2_with fail
    refine (sArea2_any ao4 n4 ac4 _ 7 _ HN4.out (by omega) (by omega) sp4_4.spots).mono ?_
    rintro e w14 ⟨m6, o6, n6, c6, p6, k6, d6, rfl, f6_0, hb14⟩
    have hB_15 := hB_14.trans (hb14.mono hB_14.size)
    have ph_14 := ph_13.below hb14
    have sp1_12 := sp1_11.below hb14
    have f1a_11 := f1a_10.below hb14
    have f1b_11 := f1b_10.below hb14
    have f1c_11 := f1c_10.below hb14
    have sp2_7 := sp2_6.below hb14
    have sp4_5 := sp4_4.below hb14
    have f5_1 := f5_0.below hb14
    clear hb14 hB_14 ph_13 sp1_11 f1a_10 f1b_10 f1c_10 sp2_6 sp4_4 f5_0
    go_wp2_with fail
    refine (qAdd _ _ (1 + n2 * ((7 + 7 + 2 + (7 + 7 + 2) + 2) + 2)) (1 + n4 * ((7 + 7 + 2 + (7 + 7 + 2) + 2) + 2)) _ _ _ (by omega) (by omega) f5_1.q f6_0.q).mono ?_
    rintro e w15 ⟨m7, o7, n7, c7, p7, k7, d7, rfl, f7_0, hb15⟩
    have hB_16 := hB_15.trans (hb15.mono hB_15.size)
    have ph_15 := ph_14.below hb15
    have sp1_13 := sp1_12.below hb15
    have f1a_12 := f1a_11.below hb15
    have f1b_12 := f1b_11.below hb15
    have f1c_12 := f1c_11.below hb15
    have sp2_8 := sp2_7.below hb15
    have sp4_6 := sp4_5.below hb15
    have f5_2 := f5_1.below hb15
    have f6_1 := f6_0.below hb15
    clear hb15 hB_15 ph_14 sp1_12 f1a_11 f1b_11 f1c_11 sp2_7 sp4_5 f5_1 f6_0
    go_wp2_with fail
    refine (sArea2_any po n0 pc _ 7 _ HPN.out (by omega) (by omega) sp1_13.spots).mono ?_
    rintro e w16 ⟨m8, o8, n8, c8, p8, k8, d8, rfl, f8_0, hb16⟩
    have hB_17 := hB_16.trans (hb16.mono hB_16.size)
    have ph_16 := ph_15.below hb16
    have sp1_14 := sp1_13.below hb16
    have f1a_13 := f1a_12.below hb16
    have f1b_13 := f1b_12.below hb16
    have f1c_13 := f1c_12.below hb16
    have sp2_9 := sp2_8.below hb16
    have sp4_7 := sp4_6.below hb16
    have f5_3 := f5_2.below hb16
    have f6_2 := f6_1.below hb16
    have f7_1 := f7_0.below hb16
    clear hb16 hB_16 ph_15 sp1_13 f1a_12 f1b_12 f1c_12 sp2_8 sp4_6 f5_2 f6_1 f7_0
    go_wp2_with fail
    refine (qSame_yes _ _ (1 + n2 * ((7 + 7 + 2 + (7 + 7 + 2) + 2) + 2) + (1 + n4 * ((7 + 7 + 2 + (7 + 7 + 2) + 2) + 2)) + 2) (1 + n0 * ((7 + 7 + 2 + (7 + 7 + 2) + 2) + 2)) _ _ _ (by omega) (by omega) f7_1.q f8_0.q (clip_halves HAB1.out P)).mono ?_
    rintro e w17 ⟨rfl, hb17⟩
    have hB_18 := hB_17.trans (hb17.mono hB_17.size)
    have ph_17 := ph_16.below hb17
    have sp1_15 := sp1_14.below hb17
    have f1a_14 := f1a_13.below hb17
    have f1b_14 := f1b_13.below hb17
    have f1c_14 := f1c_13.below hb17
    have sp2_10 := sp2_9.below hb17
    have sp4_8 := sp4_7.below hb17
    have f5_4 := f5_3.below hb17
    have f6_3 := f6_2.below hb17
    have f7_2 := f7_1.below hb17
    have f8_1 := f8_0.below hb17
    clear hb17 hB_17 ph_16 sp1_14 f1a_13 f1b_13 f1c_13 sp2_9 sp4_7 f5_3 f6_2 f7_1 f8_0
    clear f5_4 f6_3 f7_2 f8_1 sp4_8
    go_wp2
    have F1a := Lib.hid f1a_14
    have F1b := Lib.hid f1b_14
    have F1c := Lib.hid f1c_14
    have SPA := Lib.hid sp2_10; have SPP := Lib.hid sp1_15; have PHH := Lib.hid ph_17
    clear f1a_14 f1b_14 f1c_14 sp2_10 sp1_15 ph_17
    have hW_0 := Below.refl w17.heap.size w17
    have hws := hB_18.size
    go_loopw [51] (fun iv wr => ∃ k : Nat, k ≤ n2 ∧ iv = .int .i64 k ∧ Below w.heap.size w wr ∧ Below w17.heap.size w17 wr) (fun iv _ => n2 - (intOf iv).toNat)
    case atStart => exact ⟨0, Nat.zero_le _, rfl, hB_18, hW_0⟩
    case round =>
      obtain ⟨k, hk, rfl, hB_0, hW_0⟩ := hrel
      by_cases hlt : k < n2
      · obtain ⟨⟨x, y⟩, hlk⟩ : ∃ p, (clipQ (tameQ Xha Dha) (tameQ Xhb Dhb) (tameQ Xhc Dhc) P)[k]? = some p := ⟨_, List.getElem?_eq_getElem (by rw [HN2.out]; omega)⟩
        have hin := corner_clip HPOLY.out.1 hlk
        obtain ⟨b, o, m9x, o9x, n9x, c9x, p9x, k9x, d9x, m9y, o9y, n9y, c9y, p9y, k9y, d9y, hao, dd, r9x, r9y⟩ := (SPA.out.below hW_0) k x y hlk
        subst hao
        obtain ⟨ee0, ee1, ee2, ee3, ee4, ee5⟩ := dd
        obtain ⟨sc, hsc⟩ : ∃ s, (fvQ (tameQ Xha Dha) (tameQ Xhb Dhb) (tameQ Xhc Dhc) (x, y)).num.sign = s := ⟨_, rfl⟩
        have hle := (sgn_le0 (fvQ (tameQ Xha Dha) (tameQ Xhb Dhb) (tameQ Xhc Dhc) (x, y))).2 hin.2
        rw [hsc] at hle
        have hle' : ¬ 0 < sc := by omega
        have HSC := Lib.hid hsc; have HIN := Lib.hid hin.1; clear hsc hin hlk
        have f9x_0 := r9x.q; have f9y_0 := r9y.q; clear r9x r9y
        have ph_0 := PHH.out.below hW_0
        have sp1_0 := SPP.out.below hW_0
        have f1a_0 := F1a.out.below hW_0
        have f1b_0 := F1b.out.below hW_0
        have f1c_0 := F1c.out.below hW_0
        have hl1ph := ph_0.lt
        have hl1B := hB_0.size
        obtain ⟨w18, hw18, pt_0, hb18, hs18⟩ := new_box wr (wr.heap.size) rfl [.bool m9x, .slice o9x n9x c9x, .slice p9x k9x d9x, .bool m9y, .slice o9y n9y c9y, .slice p9y k9y d9y] 42
        have hb18' : Below wr.heap.size wr w18 := hb18.mono (by omega)
        clear hb18
        have hB_1 := hB_0.trans (hb18'.mono hB_0.size)
        have hW_1 := hW_0.trans (hb18'.mono hW_0.size)
        have f1a_1 := f1a_0.below hb18'
        have f1b_1 := f1b_0.below hb18'
        have f1c_1 := f1c_0.below hb18'
        have f9x_1 := f9x_0.below hb18'
        have f9y_1 := f9y_0.below hb18'
        have sp1_1 := sp1_0.below hb18'
        have ph_1 := ph_0.below hb18'
        clear hb18' hB_0 hW_0 f1a_0 f1b_0 f1c_0 f9x_0 f9y_0 sp1_0 ph_0
        obtain ⟨phe0, phe1, phe2, phe3, phe4, phe5, phe6, phe7, phe8, phe9, phe10, phe11, phe12, phe13, phe14, phe15, phe16, phe17⟩ := ph_1.open9
        obtain ⟨pte0, pte1, pte2, pte3, pte4, pte5, pte6, pte7, pte8, pte9, pte10, pte11⟩ := pt_0.open6
        go_wp2_with fail
        refine (cValue_any 1 _ _ _ 7 x y _ (by omega) (by omega) f1a_1.q f1b_1.q f1c_1.q f9x_1 f9y_1).mono ?_
        rintro e w19 ⟨m10, o10, n10, c10, p10, k10, d10, rfl, f10_0, hb19⟩
        clear phe0 phe1 phe2 phe3 phe4 phe5 phe6 phe7 phe8 phe9 phe10 phe11 phe12 phe13 phe14 phe15 phe16 phe17 pte0 pte1 pte2 pte3 pte4 pte5 pte6 pte7 pte8 pte9 pte10 pte11
        have hB_2 := hB_1.trans (hb19.mono hB_1.size)
        have hW_2 := hW_1.trans (hb19.mono hW_1.size)
        have f1a_2 := f1a_1.below hb19
        have f1b_2 := f1b_1.below hb19
        have f1c_2 := f1c_1.below hb19
        have f9x_2 := f9x_1.below hb19
        have f9y_2 := f9y_1.below hb19
        have sp1_2 := sp1_1.below hb19
        have ph_2 := ph_1.below hb19
        have pt_1 := pt_0.below hb19
        clear hb19 hB_1 hW_1 f1a_1 f1b_1 f1c_1 f9x_1 f9y_1 sp1_1 ph_1 pt_0
        obtain ⟨phe0, phe1, phe2, phe3, phe4, phe5, phe6, phe7, phe8, phe9, phe10, phe11, phe12, phe13, phe14, phe15, phe16, phe17⟩ := ph_2.open9
        obtain ⟨pte0, pte1, pte2, pte3, pte4, pte5, pte6, pte7, pte8, pte9, pte10, pte11⟩ := pt_1.open6
        clear ee0 ee1 ee2 ee3 ee4 ee5
        go_wp2_with fail
        refine (qSign _ _ _ _ (by omega) f10_0.q sc HSC.out).mono ?_
        rintro e w20 ⟨rfl, hb20⟩
        clear phe0 phe1 phe2 phe3 phe4 phe5 phe6 phe7 phe8 phe9 phe10 phe11 phe12 phe13 phe14 phe15 phe16 phe17 pte0 pte1 pte2 pte3 pte4 pte5 pte6 pte7 pte8 pte9 pte10 pte11
        have hB_3 := hB_2.trans (hb20.mono hB_2.size)
        have hW_3 := hW_2.trans (hb20.mono hW_2.size)
        have f1a_3 := f1a_2.below hb20
        have f1b_3 := f1b_2.below hb20
        have f1c_3 := f1c_2.below hb20
        have f9x_3 := f9x_2.below hb20
        have f9y_3 := f9y_2.below hb20
        have sp1_3 := sp1_2.below hb20
        have ph_3 := ph_2.below hb20
        have pt_2 := pt_1.below hb20
        have f10_1 := f10_0.below hb20
        clear hb20 hB_2 hW_2 f1a_2 f1b_2 f1c_2 f9x_2 f9y_2 sp1_2 ph_2 pt_1 f10_0
        obtain ⟨pte0, pte1, pte2, pte3, pte4, pte5, pte6, pte7, pte8, pte9, pte10, pte11⟩ := pt_2.open6
        go_wp2_with fail
        refine (cWithin_any po n0 pc P 7 7 x y true _ HPN.out (by omega) (by omega) (by omega) sp1_3 f9x_3 f9y_3 ⟨fun _ => rfl, fun _ => HIN.out⟩).mono ?_
        rintro e w21 ⟨rfl, hb21⟩
        clear pte0 pte1 pte2 pte3 pte4 pte5 pte6 pte7 pte8 pte9 pte10 pte11
        have hB_4 := hB_3.trans (hb21.mono hB_3.size)
        have hW_4 := hW_3.trans (hb21.mono hW_3.size)
        have f1a_4 := f1a_3.below hb21
        have f1b_4 := f1b_3.below hb21
        have f1c_4 := f1c_3.below hb21
        have f9x_4 := f9x_3.below hb21
        have f9y_4 := f9y_3.below hb21
        have sp1_4 := sp1_3.below hb21
        have ph_4 := ph_3.below hb21
        have pt_3 := pt_2.below hb21
        have f10_2 := f10_1.below hb21
        clear hb21 hB_3 hW_3 f1a_3 f1b_3 f1c_3 f9x_3 f9y_3 sp1_3 ph_3 pt_2 f10_1
        go_wp2
        exact ⟨⟨k + 1, by omega, by go_num, hB_4, hW_4⟩, by simp [intOf]; omega⟩
      · obtain rfl : k = n2 := by omega
        go_wp2
        go_ret
        exact ⟨rfl, hB_0⟩
end Go.Proofs.Ytdfabocecpcmcaa
/- The statement ClipOrders, walked. -/
namespace Go.Proofs.Ytdfabocecpcmcaa
open Go.RowKit Go.MagM
theorem orders_comm {g h : Rat × Rat × Rat} {P : List (Rat × Rat)} (hg : Half0 g) (hh : Half0 h) (hP : Conv0 P) :
    (∃ u v, clipQ h.1 h.2.1 h.2.2 (clipQ g.1 g.2.1 g.2.2 P) = u ++ v ∧ clipQ g.1 g.2.1 g.2.2 (clipQ h.1 h.2.1 h.2.2 P) = v ++ u) ∧ (clipQ h.1 h.2.1 h.2.2 (clipQ g.1 g.2.1 g.2.2 P)).length = (clipQ g.1 g.2.1 g.2.2 (clipQ h.1 h.2.1 h.2.2 P)).length ∧
    areaQ (clipQ h.1 h.2.1 h.2.2 (clipQ g.1 g.2.1 g.2.2 P)) = areaQ (clipQ g.1 g.2.1 g.2.2 (clipQ h.1 h.2.1 h.2.2 P)) := clip_comm hg hh hP
theorem orders_in {g h : Rat × Rat × Rat} {P : List (Rat × Rat)} (hg : Half0 g) (hh : Half0 h) (hP : Conv0 P) {k : Nat} {x y : Rat} (hk : (clipQ h.1 h.2.1 h.2.2 (clipQ g.1 g.2.1 g.2.2 P))[k]? = some (x, y)) : InL (clipQ g.1 g.2.1 g.2.2 (clipQ h.1 h.2.1 h.2.2 P)) (x, y) := by
  obtain ⟨u, v, e1, e2⟩ := (orders_comm hg hh hP).1
  have hm : (x, y) ∈ clipQ g.1 g.2.1 g.2.2 (clipQ h.1 h.2.1 h.2.2 P) := by
    have := List.mem_of_getElem? hk
    rw [e1] at this; rw [e2]; simp at this ⊢; exact this.symm
  have hc : Conv (clipQ g.1 g.2.1 g.2.2 (clipQ h.1 h.2.1 h.2.2 P)) := by
    rcases clip_conv0 (A := g.1) (B := g.2.1) (C := g.2.2) (clip_conv0 (A := h.1) (B := h.2.1) (C := h.2.2) hP) with e | e
    · rw [e] at hm; simp at hm
    · exact e
  obtain ⟨i, hi, e⟩ := mem_cor hm
  rw [e]; exact corner_in hc hi
theorem orders_twice {g h : Rat × Rat × Rat} {P : List (Rat × Rat)} (hg : Half0 g) (hh : Half0 h) (hP : Conv0 P) : (clipQ g.1 g.2.1 g.2.2 (clipQ h.1 h.2.1 h.2.2 (clipQ g.1 g.2.1 g.2.2 P))).length = (clipQ h.1 h.2.1 h.2.2 (clipQ g.1 g.2.1 g.2.2 P)).length := by
  refine (fold_same (hs := [g, h, g]) (ks := [g, h]) ?_ ?_ hP hP (fun s => and_congr_right fun _ => ?_)).2.1
  · intro x hx; simp at hx; rcases hx with rfl | rfl | rfl <;> assumption
  · intro x hx; simp at hx; rcases hx with rfl | rfl <;> assumption
  · simp only [List.mem_cons, List.not_mem_nil, or_false, forall_eq_or_imp, forall_eq]
    exact ⟨fun h => ⟨h.1, h.2.1⟩, fun h => ⟨h.1, h.2, h.1⟩⟩
theorem clipNone {ham : Bool} {hao : Option Addr} {han hac : Nat} {hap : Option Addr} {hak had : Nat} {hbm : Bool} {hbo : Option Addr} {hbn hbc : Nat} {hbp : Option Addr} {hbk hbd : Nat} {hcm : Bool} {hco : Option Addr} {hcn hcc : Nat} {hcp : Option Addr} {hck hcd : Nat} (haq hbq hcq : Rat) (w : World) (hs : SmlH (haq, hbq, hcq)) (hAB : haq ≠ 0 ∨ hbq ≠ 0) (fha_0 : FQ w (.agg #[.bool ham, .slice hao han hac, .slice hap hak had]) 1 haq) (fhb_0 : FQ w (.agg #[.bool hbm, .slice hbo hbn hbc, .slice hbp hbk hbd]) 1 hbq) (fhc_0 : FQ w (.agg #[.bool hcm, .slice hco hcn hcc, .slice hcp hck hcd]) 1 hcq) :
    Calls Try.prog 12 #[.slice none 0 0, .agg #[.bool ham, .slice hao han hac, .slice hap hak had, .bool hbm, .slice hbo hbn hbc, .slice hbp hbk hbd, .bool hcm, .slice hco hcn hcc, .slice hcp hck hcd]] w fun e w' => AnsM w w' e 7 0 [] := by
  refine (clipPoly none 0 0 [] haq hbq hcq w rfl (by omega) Poly.nil hs hAB (SpotsR.nil _ _ _) fha_0 fhb_0 fhc_0).mono fun e w' k => ?_
  rw [clip_nil] at k
  exact k.m rfl
set_option maxRecDepth 100000 in
set_option maxHeartbeats 32000000 in
theorem ClipOrders_walk {ao : Option Addr} {n c : Nat} {l : List RawH} {gam : Bool} {gao : Option Addr} {gan gac : Nat} {gap : Option Addr} {gak gad : Nat} {gbm : Bool} {gbo : Option Addr} {gbn gbc : Nat} {gbp : Option Addr} {gbk gbd : Nat} {gcm : Bool} {gco : Option Addr} {gcn gcc : Nat} {gcp : Option Addr} {gck gcd : Nat} {Lga : Nat} {Xga : Int} {Dga : Nat} {Lgb : Nat} {Xgb : Int} {Dgb : Nat} {Lgc : Nat} {Xgc : Int} {Dgc : Nat} {ham : Bool} {hao : Option Addr} {han hac : Nat} {hap : Option Addr} {hak had : Nat} {hbm : Bool} {hbo : Option Addr} {hbn hbc : Nat} {hbp : Option Addr} {hbk hbd : Nat} {hcm : Bool} {hco : Option Addr} {hcn hcc : Nat} {hcp : Option Addr} {hck hcd : Nat} {Lha : Nat} {Xha : Int} {Dha : Nat} {Lhb : Nat} {Xhb : Int} {Dhb : Nat} {Lhc : Nat} {Xhc : Int} {Dhc : Nat} (w : World) (hn : l.length = n) (hc : n ≤ c) (hr : HRaws w ao l) (fga_0 : FD w (.agg #[.bool gam, .slice gao gan gac, .slice gap gak gad]) Lga Xga Dga) (fgb_0 : FD w (.agg #[.bool gbm, .slice gbo gbn gbc, .slice gbp gbk gbd]) Lgb Xgb Dgb) (fgc_0 : FD w (.agg #[.bool gcm, .slice gco gcn gcc, .slice gcp gck gcd]) Lgc Xgc Dgc) (fha_0 : FD w (.agg #[.bool ham, .slice hao han hac, .slice hap hak had]) Lha Xha Dha) (fhb_0 : FD w (.agg #[.bool hbm, .slice hbo hbn hbc, .slice hbp hbk hbd]) Lhb Xhb Dhb) (fhc_0 : FD w (.agg #[.bool hcm, .slice hco hcn hcc, .slice hcp hck hcd]) Lhc Xhc Dhc) :
    Calls Try.prog 7 #[.slice ao n c, .agg #[.bool gam, .slice gao gan gac, .slice gap gak gad, .bool gbm, .slice gbo gbn gbc, .slice gbp gbk gbd, .bool gcm, .slice gco gcn gcc, .slice gcp gck gcd], .agg #[.bool ham, .slice hao han hac, .slice hap hak had, .bool hbm, .slice hbo hbn hbc, .slice hbp hbk hbd, .bool hcm, .slice hco hcn hcc, .slice hcp hck hcd]] w fun e w' => e = .returned (.bool true) ∧ Below w.heap.size w w' := by
  have hB_0 := Below.refl w.heap.size w
  have HRR := Lib.hid hr; have HNN := Lib.hid hn; clear hr hn
  obtain ⟨w1, hw1, pg_0, hb1, hs1⟩ := new_box w (w.heap.size) rfl [.bool gam, .slice gao gan gac, .slice gap gak gad, .bool gbm, .slice gbo gbn gbc, .slice gbp gbk gbd, .bool gcm, .slice gco gcn gcc, .slice gcp gck gcd] 30
  have hb1' : Below w.heap.size w w1 := hb1.mono (by omega)
  clear hb1
  have hB_1 := hB_0.trans (hb1'.mono hB_0.size)
  have fga_1 := fga_0.below hb1'
  have fgb_1 := fgb_0.below hb1'
  have fgc_1 := fgc_0.below hb1'
  have fha_1 := fha_0.below hb1'
  have fhb_1 := fhb_0.below hb1'
  have fhc_1 := fhc_0.below hb1'
  clear hb1' hB_0 fga_0 fgb_0 fgc_0 fha_0 fhb_0 fhc_0
  obtain ⟨w2, hw2, ph_0, hb2, hs2⟩ := new_box w1 (w.heap.size + 1) hs1 [.bool ham, .slice hao han hac, .slice hap hak had, .bool hbm, .slice hbo hbn hbc, .slice hbp hbk hbd, .bool hcm, .slice hco hcn hcc, .slice hcp hck hcd] 30
  have hb2' : Below w1.heap.size w1 w2 := hb2.mono (by omega)
  clear hb2
  have hB_2 := hB_1.trans (hb2'.mono hB_1.size)
  have fga_2 := fga_1.below hb2'
  have fgb_2 := fgb_1.below hb2'
  have fgc_2 := fgc_1.below hb2'
  have fha_2 := fha_1.below hb2'
  have fhb_2 := fhb_1.below hb2'
  have fhc_2 := fhc_1.below hb2'
  have pg_1 := pg_0.below hb2'
  clear hb2' hB_1 fga_1 fgb_1 fgc_1 fha_1 fhb_1 fhc_1 pg_0
  go_enter Try.func7, Try.ntmps7
  go_wp2_with fail
  refine (cfit_any _).mono ?_
  rintro e w3 ⟨rfl, hb3⟩
  have hB_3 := hB_2.trans (hb3.mono hB_2.size)
  have fga_3 := fga_2.below hb3
  have fgb_3 := fgb_2.below hb3
  have fgc_3 := fgc_2.below hb3
  have fha_3 := fha_2.below hb3
  have fhb_3 := fhb_2.below hb3
  have fhc_3 := fhc_2.below hb3
  have pg_2 := pg_1.below hb3
  have ph_1 := ph_0.below hb3
  clear hb3 hB_2 fga_2 fgb_2 fgc_2 fha_2 fhb_2 fhc_2 pg_1 ph_0
  have hpgl := pg_2.lt
  have hphl := ph_1.lt
  go_wp2_with fail
  refine (cshape_any ao n c l _ HNN.out hc (HRR.out.below hB_3)).mono ?_
  rintro e w4 ⟨po, pc, P, rfl, hPl, hPoly, sp1_0, frsp1, hb4⟩
  have hB_4 := hB_3.trans (hb4.mono hB_3.size)
  have fga_4 := fga_3.below hb4
  have fgb_4 := fgb_3.below hb4
  have fgc_4 := fgc_3.below hb4
  have fha_4 := fha_3.below hb4
  have fhb_4 := fhb_3.below hb4
  have fhc_4 := fhc_3.below hb4
  have pg_3 := pg_2.below hb4
  have ph_2 := ph_1.below hb4
  clear hb4 hB_3 fga_3 fgb_3 fgc_3 fha_3 fhb_3 fhc_3 pg_2 ph_1
  generalize hPn : P.length = n0 at *
  have HPN := Lib.hid hPn; have HPOLY := Lib.hid hPoly; clear hPn hPoly
  have SMG := Lib.hid (show SmlH (tameQ Xga Dga, tameQ Xgb Dgb, tameQ Xgc Dgc) from ⟨tame_small _ _, tame_small _ _, tame_small _ _⟩)
  have SMH := Lib.hid (show SmlH (tameQ Xha Dha, tameQ Xhb Dhb, tameQ Xhc Dhc) from ⟨tame_small _ _, tame_small _ _, tame_small _ _⟩)
  go_wp2
  have hWi_0 := Below.refl w4.heap.size w4
  have hsi : w.heap.size ≤ w4.heap.size := hB_4.size
  have hlipg := pg_3.lt
  have hliph := ph_2.lt
  have hB_5 := hB_4.drew'
  have fga_5 := fga_4.drew
  have fgb_5 := fgb_4.drew
  have fgc_5 := fgc_4.drew
  have fha_5 := fha_4.drew
  have fhb_5 := fhb_4.drew
  have fhc_5 := fhc_4.drew
  have pg_4 := pg_3.drew
  have ph_3 := ph_2.drew
  have sp1_1 := sp1_0.drew
  have hWi_1 := hWi_0.drew'
  clear hB_4 fga_4 fgb_4 fgc_4 fha_4 fhb_4 fhc_4 pg_3 ph_2 sp1_0 hWi_0
  obtain ⟨FFi, hFFi⟩ : ∃ F : World → Prop, ∀ w', F w' ↔ (Below w.heap.size w w' ∧ FD w' (.agg #[.bool gam, .slice gao gan gac, .slice gap gak gad]) Lga Xga Dga ∧ FD w' (.agg #[.bool gbm, .slice gbo gbn gbc, .slice gbp gbk gbd]) Lgb Xgb Dgb ∧ FD w' (.agg #[.bool gcm, .slice gco gcn gcc, .slice gcp gck gcd]) Lgc Xgc Dgc ∧ FD w' (.agg #[.bool ham, .slice hao han hac, .slice hap hak had]) Lha Xha Dha ∧ FD w' (.agg #[.bool hbm, .slice hbo hbn hbc, .slice hbp hbk hbd]) Lhb Xhb Dhb ∧ FD w' (.agg #[.bool hcm, .slice hco hcn hcc, .slice hcp hck hcd]) Lhc Xhc Dhc ∧ Box w' (w.heap.size) [.bool gam, .slice gao gan gac, .slice gap gak gad, .bool gbm, .slice gbo gbn gbc, .slice gbp gbk gbd, .bool gcm, .slice gco gcn gcc, .slice gcp gck gcd] ∧ Box w' (w.heap.size + 1) [.bool ham, .slice hao han hac, .slice hap hak had, .bool hbm, .slice hbo hbn hbc, .slice hbp hbk hbd, .bool hcm, .slice hco hcn hcc, .slice hcp hck hcd] ∧ SpotsR w' po 7 P ∧ Below w4.heap.size w4 w') := ⟨_, fun _ => Iff.rfl⟩
  have cFi : ∀ {w' w'' : World}, FFi w' → Below w'.heap.size w' w'' → FFi w'' := by
    intro w' w'' h hb
    obtain ⟨y0, y1, y2, y3, y4, y5, y6, y7, y8, y9, y10⟩ := (hFFi _).1 h
    exact (hFFi _).2 ⟨y0.trans (hb.mono y0.size), y1.below hb, y2.below hb, y3.below hb, y4.below hb, y5.below hb, y6.below hb, y7.below hb, y8.below hb, y9.below hb, y10.trans (hb.mono y10.size)⟩
  have mFi : ∀ {w' : World}, FFi w' → w4.heap.size ≤ w'.heap.size := by
    intro w' h
    obtain ⟨y0, y1, y2, y3, y4, y5, y6, y7, y8, y9, y10⟩ := (hFFi _).1 h
    exact y10.size
  have sFi : ∀ {w' : World}, FFi w' → (True) := by
    intro w' h
    obtain ⟨y0, y1, y2, y3, y4, y5, y6, y7, y8, y9, y10⟩ := (hFFi _).1 h
    exact trivial
  have zF : FFi w4.drew := (hFFi _).2 ⟨hB_5, fga_5, fgb_5, fgc_5, fha_5, fhb_5, fhc_5, pg_4, ph_3, sp1_1, hWi_1⟩
  clear hB_5 fga_5 fgb_5 fgc_5 fha_5 fhb_5 fhc_5 pg_4 ph_3 sp1_1 hWi_1
  refine wp_region_noPanic ?_
  refine wp_region_held_drew (S := fun w' => True) (by kernel_rfl) (sFi zF) (fun hHeld => ?_)
  refine reg_grab (fun WWi ai hWW hAA => ?_)
  rw [hWW]
  have HAi := Lib.hid hAA; clear hWW hAA hHeld
  obtain ⟨IVi, hIVi⟩ : ∃ IV : Array Bool → Act → World → Prop, ∀ l a w', IV l a w' ↔ ∀ CC : Prop, (∀ (lb0 lb1 lb2 lb3 : Bool) (lv0 lv1 lv2 lv3 : Value) (m1a : Bool) (o1a : Option Addr) (n1a : Nat) (c1a : Nat) (p1a : Option Addr) (k1a : Nat) (d1a : Nat) (m1b : Bool) (o1b : Option Addr) (n1b : Nat) (c1b : Nat) (p1b : Option Addr) (k1b : Nat) (d1b : Nat) (m1c : Bool) (o1c : Option Addr) (n1c : Nat) (c1c : Nat) (p1c : Option Addr) (k1c : Nat) (d1c : Nat) (m2a : Bool) (o2a : Option Addr) (n2a : Nat) (c2a : Nat) (p2a : Option Addr) (k2a : Nat) (d2a : Nat) (m2b : Bool) (o2b : Option Addr) (n2b : Nat) (c2b : Nat) (p2b : Option Addr) (k2b : Nat) (d2b : Nat) (m2c : Bool) (o2c : Option Addr) (n2c : Nat) (c2c : Nat) (p2c : Option Addr) (k2c : Nat) (d2c : Nat), (l = #[lb0, lb1, lb2, lb3, false, false]) → (a = ((((ai.put (some 16) lv0).put (some 17) lv1).put (some 18) lv2).put (some 19) lv3)) → (FFi w') → ((lb0 = true → lv0 = .agg #[.bool gam, .slice gao gan gac, .slice gap gak gad, .bool gbm, .slice gbo gbn gbc, .slice gbp gbk gbd, .bool gcm, .slice gco gcn gcc, .slice gcp gck gcd])) → ((lb1 = true → lv1 = .agg #[.bool m1a, .slice o1a n1a c1a, .slice p1a k1a d1a, .bool m1b, .slice o1b n1b c1b, .slice p1b k1b d1b, .bool m1c, .slice o1c n1c c1c, .slice p1c k1c d1c] ∧ RF w' (.agg #[.bool m1a, .slice o1a n1a c1a, .slice p1a k1a d1a]) (1) (tameQ Xga Dga) ∧ RF w' (.agg #[.bool m1b, .slice o1b n1b c1b, .slice p1b k1b d1b]) (1) (tameQ Xgb Dgb) ∧ RF w' (.agg #[.bool m1c, .slice o1c n1c c1c, .slice p1c k1c d1c]) (1) (tameQ Xgc Dgc))) → ((lb2 = true → lv2 = .agg #[.bool ham, .slice hao han hac, .slice hap hak had, .bool hbm, .slice hbo hbn hbc, .slice hbp hbk hbd, .bool hcm, .slice hco hcn hcc, .slice hcp hck hcd])) → ((lb3 = true → lv3 = .agg #[.bool m2a, .slice o2a n2a c2a, .slice p2a k2a d2a, .bool m2b, .slice o2b n2b c2b, .slice p2b k2b d2b, .bool m2c, .slice o2c n2c c2c, .slice p2c k2c d2c] ∧ RF w' (.agg #[.bool m2a, .slice o2a n2a c2a, .slice p2a k2a d2a]) (1) (tameQ Xha Dha) ∧ RF w' (.agg #[.bool m2b, .slice o2b n2b c2b, .slice p2b k2b d2b]) (1) (tameQ Xhb Dhb) ∧ RF w' (.agg #[.bool m2c, .slice o2c n2c c2c, .slice p2c k2c d2c]) (1) (tameQ Xhc Dhc))) → ((lb1 = true → lb0 = true)) → ((lb3 = true → lb2 = true)) → ((lb3 = true → lb1 = true)) → CC) → CC := ⟨_, fun _ _ _ => Iff.rfl⟩
  refine wpAnyH_until IVi ?_ _ _ _ _ ((hIVi _ _ _).2 (fun CC kk => kk false false false false (ai.tmps.getD 16 undef) (ai.tmps.getD 17 undef) (ai.tmps.getD 18 undef) (ai.tmps.getD 19 undef) false none 0 0 none 0 0 false none 0 0 none 0 0 false none 0 0 none 0 0 false none 0 0 none 0 0 false none 0 0 none 0 0 false none 0 0 none 0 0 rfl (by simp only [put_same]) zF (fun h => by cases h) (fun h => by cases h) (fun h => by cases h) (fun h => by cases h) (fun h => by cases h) (fun h => by cases h) (fun h => by cases h))) (by kernel_rfl)
  clear zF
  intro ll aa w5 hI
  refine (hIVi _ _ _).1 hI _ ?_
  clear hI
  intro lb0 lb1 lb2 lb3 lv0 lv1 lv2 lv3 m1a o1a n1a c1a p1a k1a d1a m1b o1b n1b c1b p1b k1b d1b m1c o1c n1c c1c p1c k1c d1c m2a o2a n2a c2a p2a k2a d2a m2b o2b n2b c2b p2b k2b d2b m2c o2c n2c c2c p2c k2c d2c hll haa zF F0 F1 F2 F3 dp1_0 dp3_2 dp3_1
  subst hll haa
  by_cases hL : lb0 = true ∧ lb1 = true ∧ lb2 = true ∧ lb3 = true
  · left
    obtain ⟨rfl, rfl, rfl, rfl⟩ := hL
    obtain rfl := F0 rfl
    clear F0
    obtain ⟨rfl, f1a_0, f1b_0, f1c_0⟩ := F1 rfl
    clear F1
    obtain rfl := F2 rfl
    clear F2
    obtain ⟨rfl, f2a_0, f2b_0, f2c_0⟩ := F3 rfl
    clear F3
    clear dp1_0 dp3_2 dp3_1
    show wpAnyH _ _ _ _ _ 2 _ _ _
    rw [HAi.out]
    try simp only [Act.put]
    try simp only [List.setIfInBounds_toArray, List.set_cons_zero, List.set_cons_succ]
    obtain ⟨hB_0, fga_0, fgb_0, fgc_0, fha_0, fhb_0, fhc_0, pg_0, ph_0, sp1_0, hWi_0⟩ := (hFFi _).1 zF
    clear zF
    clear hWi_0
    refine reg_call 4 ?_ (by kernel_rfl) ?_ (fun K hK => ?_)
    rotate_left 1
    · simp only [List.getElem?_toArray, List.getElem?_cons_succ, List.getElem?_cons_zero]; exact rfl
    obtain ⟨w6, hslw6⟩ : ∃ q, Go.MagM.setAll w5 (w.heap.size) 0 [.bool m1a, .slice o1a n1a c1a, .slice p1a k1a d1a, .bool m1b, .slice o1b n1b c1b, .slice p1b k1b d1b, .bool m1c, .slice o1c n1c c1c, .slice p1c k1c d1c] = q := ⟨_, rfl⟩
    have hB_1 := below_setFrom (g := w.heap.size) (by omega) [.bool m1a, .slice o1a n1a c1a, .slice p1a k1a d1a, .bool m1b, .slice o1b n1b c1b, .slice p1b k1b d1b, .bool m1c, .slice o1c n1c c1c, .slice p1c k1c d1c] 0 hB_0
    rw [hslw6] at hB_1
    have fga_1 := fga_0.kept (Kept.setPart pg_0 (noWordB _ rfl) 0 [.bool m1a, .slice o1a n1a c1a, .slice p1a k1a d1a, .bool m1b, .slice o1b n1b c1b, .slice p1b k1b d1b, .bool m1c, .slice o1c n1c c1c, .slice p1c k1c d1c] (by simp))
    rw [hslw6] at fga_1
    have fgb_1 := fgb_0.kept (Kept.setPart pg_0 (noWordB _ rfl) 0 [.bool m1a, .slice o1a n1a c1a, .slice p1a k1a d1a, .bool m1b, .slice o1b n1b c1b, .slice p1b k1b d1b, .bool m1c, .slice o1c n1c c1c, .slice p1c k1c d1c] (by simp))
    rw [hslw6] at fgb_1
    have fgc_1 := fgc_0.kept (Kept.setPart pg_0 (noWordB _ rfl) 0 [.bool m1a, .slice o1a n1a c1a, .slice p1a k1a d1a, .bool m1b, .slice o1b n1b c1b, .slice p1b k1b d1b, .bool m1c, .slice o1c n1c c1c, .slice p1c k1c d1c] (by simp))
    rw [hslw6] at fgc_1
    have fha_1 := fha_0.kept (Kept.setPart pg_0 (noWordB _ rfl) 0 [.bool m1a, .slice o1a n1a c1a, .slice p1a k1a d1a, .bool m1b, .slice o1b n1b c1b, .slice p1b k1b d1b, .bool m1c, .slice o1c n1c c1c, .slice p1c k1c d1c] (by simp))
    rw [hslw6] at fha_1
    have fhb_1 := fhb_0.kept (Kept.setPart pg_0 (noWordB _ rfl) 0 [.bool m1a, .slice o1a n1a c1a, .slice p1a k1a d1a, .bool m1b, .slice o1b n1b c1b, .slice p1b k1b d1b, .bool m1c, .slice o1c n1c c1c, .slice p1c k1c d1c] (by simp))
    rw [hslw6] at fhb_1
    have fhc_1 := fhc_0.kept (Kept.setPart pg_0 (noWordB _ rfl) 0 [.bool m1a, .slice o1a n1a c1a, .slice p1a k1a d1a, .bool m1b, .slice o1b n1b c1b, .slice p1b k1b d1b, .bool m1c, .slice o1c n1c c1c, .slice p1c k1c d1c] (by simp))
    rw [hslw6] at fhc_1
    have ph_1 := Box.farFrom (g' := w.heap.size) (by omega) [.bool m1a, .slice o1a n1a c1a, .slice p1a k1a d1a, .bool m1b, .slice o1b n1b c1b, .slice p1b k1b d1b, .bool m1c, .slice o1c n1c c1c, .slice p1c k1c d1c] 0 ph_0
    rw [hslw6] at ph_1
    have sp1_1 := sp1_0.setBox pg_0 (noWordB _ rfl) [.bool m1a, .slice o1a n1a c1a, .slice p1a k1a d1a, .bool m1b, .slice o1b n1b c1b, .slice p1b k1b d1b, .bool m1c, .slice o1c n1c c1c, .slice p1c k1c d1c] rfl (fun a ha => by have h1 := frsp1 a ha; omega)
    rw [hslw6] at sp1_1
    have f1a_1 := f1a_0.kept (Kept.setPart pg_0 (noWordB _ rfl) 0 [.bool m1a, .slice o1a n1a c1a, .slice p1a k1a d1a, .bool m1b, .slice o1b n1b c1b, .slice p1b k1b d1b, .bool m1c, .slice o1c n1c c1c, .slice p1c k1c d1c] (by simp))
    rw [hslw6] at f1a_1
    have f1b_1 := f1b_0.kept (Kept.setPart pg_0 (noWordB _ rfl) 0 [.bool m1a, .slice o1a n1a c1a, .slice p1a k1a d1a, .bool m1b, .slice o1b n1b c1b, .slice p1b k1b d1b, .bool m1c, .slice o1c n1c c1c, .slice p1c k1c d1c] (by simp))
    rw [hslw6] at f1b_1
    have f1c_1 := f1c_0.kept (Kept.setPart pg_0 (noWordB _ rfl) 0 [.bool m1a, .slice o1a n1a c1a, .slice p1a k1a d1a, .bool m1b, .slice o1b n1b c1b, .slice p1b k1b d1b, .bool m1c, .slice o1c n1c c1c, .slice p1c k1c d1c] (by simp))
    rw [hslw6] at f1c_1
    have f2a_1 := f2a_0.kept (Kept.setPart pg_0 (noWordB _ rfl) 0 [.bool m1a, .slice o1a n1a c1a, .slice p1a k1a d1a, .bool m1b, .slice o1b n1b c1b, .slice p1b k1b d1b, .bool m1c, .slice o1c n1c c1c, .slice p1c k1c d1c] (by simp))
    rw [hslw6] at f2a_1
    have f2b_1 := f2b_0.kept (Kept.setPart pg_0 (noWordB _ rfl) 0 [.bool m1a, .slice o1a n1a c1a, .slice p1a k1a d1a, .bool m1b, .slice o1b n1b c1b, .slice p1b k1b d1b, .bool m1c, .slice o1c n1c c1c, .slice p1c k1c d1c] (by simp))
    rw [hslw6] at f2b_1
    have f2c_1 := f2c_0.kept (Kept.setPart pg_0 (noWordB _ rfl) 0 [.bool m1a, .slice o1a n1a c1a, .slice p1a k1a d1a, .bool m1b, .slice o1b n1b c1b, .slice p1b k1b d1b, .bool m1c, .slice o1c n1c c1c, .slice p1c k1c d1c] (by simp))
    rw [hslw6] at f2c_1
    have pg_1 := pg_0.setAll [.bool m1a, .slice o1a n1a c1a, .slice p1a k1a d1a, .bool m1b, .slice o1b n1b c1b, .slice p1b k1b d1b, .bool m1c, .slice o1c n1c c1c, .slice p1c k1c d1c] rfl
    rw [hslw6] at pg_1
    refine wanted_go rfl ?_
    refine wp_store_box _ _ _ rfl [.bool m1a, .slice o1a n1a c1a, .slice p1a k1a d1a, .bool m1b, .slice o1b n1b c1b, .slice p1b k1b d1b, .bool m1c, .slice o1c n1c c1c, .slice p1c k1c d1c] pg_0 rfl rfl (by kernel_rfl) (by simp) rfl hslw6 ?_
    clear hslw6 hB_0 fga_0 fgb_0 fgc_0 fha_0 fhb_0 fhc_0 ph_0 sp1_0 f1a_0 f1b_0 f1c_0 f2a_0 f2b_0 f2c_0 pg_0
    refine hK.out _ _ trivial (fun hHeld => ?_)
    clear hK K
    try simp only [Act.put]
    try simp only [List.setIfInBounds_toArray, List.set_cons_zero, List.set_cons_succ]
    refine reg_call 5 ?_ (by kernel_rfl) ?_ (fun K hK => ?_)
    rotate_left 1
    · simp only [List.getElem?_toArray, List.getElem?_cons_succ, List.getElem?_cons_zero]; exact rfl
    obtain ⟨w7, hslw7⟩ : ∃ q, Go.MagM.setAll w6 (w.heap.size + 1) 0 [.bool m2a, .slice o2a n2a c2a, .slice p2a k2a d2a, .bool m2b, .slice o2b n2b c2b, .slice p2b k2b d2b, .bool m2c, .slice o2c n2c c2c, .slice p2c k2c d2c] = q := ⟨_, rfl⟩
    have hB_2 := below_setFrom (g := w.heap.size + 1) (by omega) [.bool m2a, .slice o2a n2a c2a, .slice p2a k2a d2a, .bool m2b, .slice o2b n2b c2b, .slice p2b k2b d2b, .bool m2c, .slice o2c n2c c2c, .slice p2c k2c d2c] 0 hB_1
    rw [hslw7] at hB_2
    have fga_2 := fga_1.kept (Kept.setPart ph_1 (noWordB _ rfl) 0 [.bool m2a, .slice o2a n2a c2a, .slice p2a k2a d2a, .bool m2b, .slice o2b n2b c2b, .slice p2b k2b d2b, .bool m2c, .slice o2c n2c c2c, .slice p2c k2c d2c] (by simp))
    rw [hslw7] at fga_2
    have fgb_2 := fgb_1.kept (Kept.setPart ph_1 (noWordB _ rfl) 0 [.bool m2a, .slice o2a n2a c2a, .slice p2a k2a d2a, .bool m2b, .slice o2b n2b c2b, .slice p2b k2b d2b, .bool m2c, .slice o2c n2c c2c, .slice p2c k2c d2c] (by simp))
    rw [hslw7] at fgb_2
    have fgc_2 := fgc_1.kept (Kept.setPart ph_1 (noWordB _ rfl) 0 [.bool m2a, .slice o2a n2a c2a, .slice p2a k2a d2a, .bool m2b, .slice o2b n2b c2b, .slice p2b k2b d2b, .bool m2c, .slice o2c n2c c2c, .slice p2c k2c d2c] (by simp))
    rw [hslw7] at fgc_2
    have fha_2 := fha_1.kept (Kept.setPart ph_1 (noWordB _ rfl) 0 [.bool m2a, .slice o2a n2a c2a, .slice p2a k2a d2a, .bool m2b, .slice o2b n2b c2b, .slice p2b k2b d2b, .bool m2c, .slice o2c n2c c2c, .slice p2c k2c d2c] (by simp))
    rw [hslw7] at fha_2
    have fhb_2 := fhb_1.kept (Kept.setPart ph_1 (noWordB _ rfl) 0 [.bool m2a, .slice o2a n2a c2a, .slice p2a k2a d2a, .bool m2b, .slice o2b n2b c2b, .slice p2b k2b d2b, .bool m2c, .slice o2c n2c c2c, .slice p2c k2c d2c] (by simp))
    rw [hslw7] at fhb_2
    have fhc_2 := fhc_1.kept (Kept.setPart ph_1 (noWordB _ rfl) 0 [.bool m2a, .slice o2a n2a c2a, .slice p2a k2a d2a, .bool m2b, .slice o2b n2b c2b, .slice p2b k2b d2b, .bool m2c, .slice o2c n2c c2c, .slice p2c k2c d2c] (by simp))
    rw [hslw7] at fhc_2
    have pg_2 := Box.farFrom (g' := w.heap.size + 1) (by omega) [.bool m2a, .slice o2a n2a c2a, .slice p2a k2a d2a, .bool m2b, .slice o2b n2b c2b, .slice p2b k2b d2b, .bool m2c, .slice o2c n2c c2c, .slice p2c k2c d2c] 0 pg_1
    rw [hslw7] at pg_2
    have sp1_2 := sp1_1.setBox ph_1 (noWordB _ rfl) [.bool m2a, .slice o2a n2a c2a, .slice p2a k2a d2a, .bool m2b, .slice o2b n2b c2b, .slice p2b k2b d2b, .bool m2c, .slice o2c n2c c2c, .slice p2c k2c d2c] rfl (fun a ha => by have h1 := frsp1 a ha; omega)
    rw [hslw7] at sp1_2
    have f1a_2 := f1a_1.kept (Kept.setPart ph_1 (noWordB _ rfl) 0 [.bool m2a, .slice o2a n2a c2a, .slice p2a k2a d2a, .bool m2b, .slice o2b n2b c2b, .slice p2b k2b d2b, .bool m2c, .slice o2c n2c c2c, .slice p2c k2c d2c] (by simp))
    rw [hslw7] at f1a_2
    have f1b_2 := f1b_1.kept (Kept.setPart ph_1 (noWordB _ rfl) 0 [.bool m2a, .slice o2a n2a c2a, .slice p2a k2a d2a, .bool m2b, .slice o2b n2b c2b, .slice p2b k2b d2b, .bool m2c, .slice o2c n2c c2c, .slice p2c k2c d2c] (by simp))
    rw [hslw7] at f1b_2
    have f1c_2 := f1c_1.kept (Kept.setPart ph_1 (noWordB _ rfl) 0 [.bool m2a, .slice o2a n2a c2a, .slice p2a k2a d2a, .bool m2b, .slice o2b n2b c2b, .slice p2b k2b d2b, .bool m2c, .slice o2c n2c c2c, .slice p2c k2c d2c] (by simp))
    rw [hslw7] at f1c_2
    have f2a_2 := f2a_1.kept (Kept.setPart ph_1 (noWordB _ rfl) 0 [.bool m2a, .slice o2a n2a c2a, .slice p2a k2a d2a, .bool m2b, .slice o2b n2b c2b, .slice p2b k2b d2b, .bool m2c, .slice o2c n2c c2c, .slice p2c k2c d2c] (by simp))
    rw [hslw7] at f2a_2
    have f2b_2 := f2b_1.kept (Kept.setPart ph_1 (noWordB _ rfl) 0 [.bool m2a, .slice o2a n2a c2a, .slice p2a k2a d2a, .bool m2b, .slice o2b n2b c2b, .slice p2b k2b d2b, .bool m2c, .slice o2c n2c c2c, .slice p2c k2c d2c] (by simp))
    rw [hslw7] at f2b_2
    have f2c_2 := f2c_1.kept (Kept.setPart ph_1 (noWordB _ rfl) 0 [.bool m2a, .slice o2a n2a c2a, .slice p2a k2a d2a, .bool m2b, .slice o2b n2b c2b, .slice p2b k2b d2b, .bool m2c, .slice o2c n2c c2c, .slice p2c k2c d2c] (by simp))
    rw [hslw7] at f2c_2
    have ph_2 := ph_1.setAll [.bool m2a, .slice o2a n2a c2a, .slice p2a k2a d2a, .bool m2b, .slice o2b n2b c2b, .slice p2b k2b d2b, .bool m2c, .slice o2c n2c c2c, .slice p2c k2c d2c] rfl
    rw [hslw7] at ph_2
    refine wanted_go rfl ?_
    refine wp_store_box _ _ _ rfl [.bool m2a, .slice o2a n2a c2a, .slice p2a k2a d2a, .bool m2b, .slice o2b n2b c2b, .slice p2b k2b d2b, .bool m2c, .slice o2c n2c c2c, .slice p2c k2c d2c] ph_1 rfl rfl (by kernel_rfl) (by simp) rfl hslw7 ?_
    clear hslw7 hB_1 fga_1 fgb_1 fgc_1 fha_1 fhb_1 fhc_1 pg_1 sp1_1 f1a_1 f1b_1 f1c_1 f2a_1 f2b_1 f2c_1 ph_1
    refine hK.out _ _ trivial (fun hHeld => ?_)
    clear hK K
    try simp only [Act.put]
    try simp only [List.setIfInBounds_toArray, List.set_cons_zero, List.set_cons_succ]
    refine wpAnyH_done (by kernel_rfl) ?_ _
    refine NoPanic.normal ?_
    clear fga_2 fgb_2 fgc_2 fha_2 fhb_2 fhc_2
    obtain ⟨pge0, pge1, pge2, pge3, pge4, pge5, pge6, pge7, pge8, pge9, pge10, pge11, pge12, pge13, pge14, pge15, pge16, pge17⟩ := pg_2.open9
    obtain ⟨phe0, phe1, phe2, phe3, phe4, phe5, phe6, phe7, phe8, phe9, phe10, phe11, phe12, phe13, phe14, phe15, phe16, phe17⟩ := ph_2.open9
    by_cases hfl1 : tameQ Xga Dga = 0 ∧ tameQ Xgb Dgb = 0
    · go_wp2_with fail
      refine (hflat_any 1 _ _ _ (by omega) f1a_2.q f1b_2.q true ⟨fun _ => rfl, fun _ => hfl1⟩).mono ?_
      rintro e w8 ⟨rfl, hb8⟩
      clear pge0 pge1 pge2 pge3 pge4 pge5 pge6 pge7 pge8 pge9 pge10 pge11 pge12 pge13 pge14 pge15 pge16 pge17 phe0 phe1 phe2 phe3 phe4 phe5 phe6 phe7 phe8 phe9 phe10 phe11 phe12 phe13 phe14 phe15 phe16 phe17
      have hB_3 := hB_2.trans (hb8.mono hB_2.size)
      have pg_3 := pg_2.below hb8
      have ph_3 := ph_2.below hb8
      have sp1_3 := sp1_2.below hb8
      have f1a_3 := f1a_2.below hb8
      have f1b_3 := f1b_2.below hb8
      have f1c_3 := f1c_2.below hb8
      have f2a_3 := f2a_2.below hb8
      have f2b_3 := f2b_2.below hb8
      have f2c_3 := f2c_2.below hb8
      clear hb8 hB_2 pg_2 ph_2 sp1_2 f1a_2 f1b_2 f1c_2 f2a_2 f2b_2 f2c_2
      go_wp2
      go_ret
      exact ⟨rfl, hB_3⟩
    · have hAB : tameQ Xga Dga ≠ 0 ∨ tameQ Xgb Dgb ≠ 0 := by
        by_cases e : tameQ Xga Dga = 0
        · exact .inr (fun e2 => hfl1 ⟨e, e2⟩)
        · exact .inl e
      have HAB1 := Lib.hid hAB; have HF1 := Lib.hid hfl1; clear hAB hfl1
      go_wp2_with fail
      refine (hflat_any 1 _ _ _ (by omega) f1a_2.q f1b_2.q false ⟨fun h => absurd h HF1.out, fun h => by cases h⟩).mono ?_
      rintro e w8 ⟨rfl, hb8⟩
      clear pge0 pge1 pge2 pge3 pge4 pge5 pge6 pge7 pge8 pge9 pge10 pge11 pge12 pge13 pge14 pge15 pge16 pge17 phe0 phe1 phe2 phe3 phe4 phe5 phe6 phe7 phe8 phe9 phe10 phe11 phe12 phe13 phe14 phe15 phe16 phe17
      have hB_3 := hB_2.trans (hb8.mono hB_2.size)
      have pg_3 := pg_2.below hb8
      have ph_3 := ph_2.below hb8
      have sp1_3 := sp1_2.below hb8
      have f1a_3 := f1a_2.below hb8
      have f1b_3 := f1b_2.below hb8
      have f1c_3 := f1c_2.below hb8
      have f2a_3 := f2a_2.below hb8
      have f2b_3 := f2b_2.below hb8
      have f2c_3 := f2c_2.below hb8
      clear hb8 hB_2 pg_2 ph_2 sp1_2 f1a_2 f1b_2 f1c_2 f2a_2 f2b_2 f2c_2
      obtain ⟨pge0, pge1, pge2, pge3, pge4, pge5, pge6, pge7, pge8, pge9, pge10, pge11, pge12, pge13, pge14, pge15, pge16, pge17⟩ := pg_3.open9
      obtain ⟨phe0, phe1, phe2, phe3, phe4, phe5, phe6, phe7, phe8, phe9, phe10, phe11, phe12, phe13, phe14, phe15, phe16, phe17⟩ := ph_3.open9
      by_cases hfl2 : tameQ Xha Dha = 0 ∧ tameQ Xhb Dhb = 0
      · go_wp2_with fail
        refine (hflat_any 1 _ _ _ (by omega) f2a_3.q f2b_3.q true ⟨fun _ => rfl, fun _ => hfl2⟩).mono ?_
        rintro e w9 ⟨rfl, hb9⟩
        clear pge0 pge1 pge2 pge3 pge4 pge5 pge6 pge7 pge8 pge9 pge10 pge11 pge12 pge13 pge14 pge15 pge16 pge17 phe0 phe1 phe2 phe3 phe4 phe5 phe6 phe7 phe8 phe9 phe10 phe11 phe12 phe13 phe14 phe15 phe16 phe17
        have hB_4 := hB_3.trans (hb9.mono hB_3.size)
        have pg_4 := pg_3.below hb9
        have ph_4 := ph_3.below hb9
        have sp1_4 := sp1_3.below hb9
        have f1a_4 := f1a_3.below hb9
        have f1b_4 := f1b_3.below hb9
        have f1c_4 := f1c_3.below hb9
        have f2a_4 := f2a_3.below hb9
        have f2b_4 := f2b_3.below hb9
        have f2c_4 := f2c_3.below hb9
        clear hb9 hB_3 pg_3 ph_3 sp1_3 f1a_3 f1b_3 f1c_3 f2a_3 f2b_3 f2c_3
        go_wp2
        go_ret
        exact ⟨rfl, hB_4⟩
      · have hAB : tameQ Xha Dha ≠ 0 ∨ tameQ Xhb Dhb ≠ 0 := by
          by_cases e : tameQ Xha Dha = 0
          · exact .inr (fun e2 => hfl2 ⟨e, e2⟩)
          · exact .inl e
        have HAB2 := Lib.hid hAB; have HF2 := Lib.hid hfl2; clear hAB hfl2
        go_wp2_with fail
        refine (hflat_any 1 _ _ _ (by omega) f2a_3.q f2b_3.q false ⟨fun h => absurd h HF2.out, fun h => by cases h⟩).mono ?_
        rintro e w9 ⟨rfl, hb9⟩
        clear pge0 pge1 pge2 pge3 pge4 pge5 pge6 pge7 pge8 pge9 pge10 pge11 pge12 pge13 pge14 pge15 pge16 pge17 phe0 phe1 phe2 phe3 phe4 phe5 phe6 phe7 phe8 phe9 phe10 phe11 phe12 phe13 phe14 phe15 phe16 phe17
        have hB_4 := hB_3.trans (hb9.mono hB_3.size)
        have pg_4 := pg_3.below hb9
        have ph_4 := ph_3.below hb9
        have sp1_4 := sp1_3.below hb9
        have f1a_4 := f1a_3.below hb9
        have f1b_4 := f1b_3.below hb9
        have f1c_4 := f1c_3.below hb9
        have f2a_4 := f2a_3.below hb9
        have f2b_4 := f2b_3.below hb9
        have f2c_4 := f2c_3.below hb9
        clear hb9 hB_3 pg_3 ph_3 sp1_3 f1a_3 f1b_3 f1c_3 f2a_3 f2b_3 f2c_3
        go_wp2
        have hcl3 := clip_len HAB1.out (C := tameQ Xgc Dgc) HPOLY.out.1
        rw [HPN.out] at hcl3
        obtain ⟨n3, hLn⟩ : ∃ n, (clipQ (tameQ Xga Dga) (tameQ Xgb Dgb) (tameQ Xgc Dgc) P).length = n := ⟨_, rfl⟩
        rw [hLn] at hcl3
        have HN3 := Lib.hid hLn; clear hLn
        have hcl4 := clip_len HAB2.out (C := tameQ Xhc Dhc) (HPOLY.out.clip HAB1.out SMG.out).1
        rw [HN3.out] at hcl4
        obtain ⟨n4, hLn⟩ : ∃ n, (clipQ (tameQ Xha Dha) (tameQ Xhb Dhb) (tameQ Xhc Dhc) (clipQ (tameQ Xga Dga) (tameQ Xgb Dgb) (tameQ Xgc Dgc) P)).length = n := ⟨_, rfl⟩
        rw [hLn] at hcl4
        have HN4 := Lib.hid hLn; clear hLn
        have hcl5 := clip_len HAB2.out (C := tameQ Xhc Dhc) HPOLY.out.1
        rw [HPN.out] at hcl5
        obtain ⟨n5, hLn⟩ : ∃ n, (clipQ (tameQ Xha Dha) (tameQ Xhb Dhb) (tameQ Xhc Dhc) P).length = n := ⟨_, rfl⟩
        rw [hLn] at hcl5
        have HN5 := Lib.hid hLn; clear hLn
        have hcl6 := clip_len HAB1.out (C := tameQ Xgc Dgc) (HPOLY.out.clip HAB2.out SMH.out).1
        rw [HN5.out] at hcl6
        obtain ⟨n6, hLn⟩ : ∃ n, (clipQ (tameQ Xga Dga) (tameQ Xgb Dgb) (tameQ Xgc Dgc) (clipQ (tameQ Xha Dha) (tameQ Xhb Dhb) (tameQ Xhc Dhc) P)).length = n := ⟨_, rfl⟩
        rw [hLn] at hcl6
        have HN6 := Lib.hid hLn; clear hLn
        have hB_5 := hB_4.drew'
        have pg_5 := pg_4.drew
        have ph_5 := ph_4.drew
        have sp1_5 := sp1_4.drew
        have f1a_5 := f1a_4.drew
        have f1b_5 := f1b_4.drew
        have f1c_5 := f1c_4.drew
        have f2a_5 := f2a_4.drew
        have f2b_5 := f2b_4.drew
        have f2c_5 := f2c_4.drew
        clear hB_4 pg_4 ph_4 sp1_4 f1a_4 f1b_4 f1c_4 f2a_4 f2b_4 f2c_4
        go_region_held3 (fun w' => w'.cell? ⟨w.heap.size, 0, none⟩ = some (.bool m1a) ∧ w'.cell? ⟨w.heap.size, 1, none⟩ = some (.slice o1a n1a c1a) ∧ w'.cell? ⟨w.heap.size, 2, none⟩ = some (.slice p1a k1a d1a) ∧ w'.cell? ⟨w.heap.size, 3, none⟩ = some (.bool m1b) ∧ w'.cell? ⟨w.heap.size, 4, none⟩ = some (.slice o1b n1b c1b) ∧ w'.cell? ⟨w.heap.size, 5, none⟩ = some (.slice p1b k1b d1b) ∧ w'.cell? ⟨w.heap.size, 6, none⟩ = some (.bool m1c) ∧ w'.cell? ⟨w.heap.size, 7, none⟩ = some (.slice o1c n1c c1c) ∧ w'.cell? ⟨w.heap.size, 8, none⟩ = some (.slice p1c k1c d1c) ∧ w'.cell? ⟨w.heap.size + 1, 0, none⟩ = some (.bool m2a) ∧ w'.cell? ⟨w.heap.size + 1, 1, none⟩ = some (.slice o2a n2a c2a) ∧ w'.cell? ⟨w.heap.size + 1, 2, none⟩ = some (.slice p2a k2a d2a) ∧ w'.cell? ⟨w.heap.size + 1, 3, none⟩ = some (.bool m2b) ∧ w'.cell? ⟨w.heap.size + 1, 4, none⟩ = some (.slice o2b n2b c2b) ∧ w'.cell? ⟨w.heap.size + 1, 5, none⟩ = some (.slice p2b k2b d2b) ∧ w'.cell? ⟨w.heap.size + 1, 6, none⟩ = some (.bool m2c) ∧ w'.cell? ⟨w.heap.size + 1, 7, none⟩ = some (.slice o2c n2c c2c) ∧ w'.cell? ⟨w.heap.size + 1, 8, none⟩ = some (.slice p2c k2c d2c))
          (first | with_reducible exact ⟨pg_5.c0, pg_5.c1, pg_5.c2, pg_5.c3, pg_5.c4, pg_5.c5, pg_5.c6, pg_5.c7, pg_5.c8, ph_5.c0, ph_5.c1, ph_5.c2, ph_5.c3, ph_5.c4, ph_5.c5, ph_5.c6, ph_5.c7, ph_5.c8⟩ | with_reducible exact ⟨pg_6.c0, pg_6.c1, pg_6.c2, pg_6.c3, pg_6.c4, pg_6.c5, pg_6.c6, pg_6.c7, pg_6.c8, ph_6.c0, ph_6.c1, ph_6.c2, ph_6.c3, ph_6.c4, ph_6.c5, ph_6.c6, ph_6.c7, ph_6.c8⟩ | with_reducible exact ⟨pg_7.c0, pg_7.c1, pg_7.c2, pg_7.c3, pg_7.c4, pg_7.c5, pg_7.c6, pg_7.c7, pg_7.c8, ph_7.c0, ph_7.c1, ph_7.c2, ph_7.c3, ph_7.c4, ph_7.c5, ph_7.c6, ph_7.c7, ph_7.c8⟩ | with_reducible exact ⟨pg_8.c0, pg_8.c1, pg_8.c2, pg_8.c3, pg_8.c4, pg_8.c5, pg_8.c6, pg_8.c7, pg_8.c8, ph_8.c0, ph_8.c1, ph_8.c2, ph_8.c3, ph_8.c4, ph_8.c5, ph_8.c6, ph_8.c7, ph_8.c8⟩ | with_reducible exact ⟨pg_9.c0, pg_9.c1, pg_9.c2, pg_9.c3, pg_9.c4, pg_9.c5, pg_9.c6, pg_9.c7, pg_9.c8, ph_9.c0, ph_9.c1, ph_9.c2, ph_9.c3, ph_9.c4, ph_9.c5, ph_9.c6, ph_9.c7, ph_9.c8⟩ | fail)
          (first
            | (go_at_call 12; (with_reducible refine ((clipPoly po n0 pc _ _ _ _ _ HPN.out (by omega) HPOLY.out SMG.out HAB1.out sp1_5 f1a_5.q f1b_5.q f1c_5.q).mono (fun e w' k => k.m HN3.out)).mono ?_); rintro e w10 ⟨ao3, ac3, rfl, sp3_0, frsp3, hb10⟩; have hB_6 := hB_5.trans (hb10.mono hB_5.size); have pg_6 := pg_5.below hb10; have ph_6 := ph_5.below hb10; have sp1_6 := sp1_5.below hb10; have f1a_6 := f1a_5.below hb10; have f1b_6 := f1b_5.below hb10; have f1c_6 := f1c_5.below hb10; have f2a_6 := f2a_5.below hb10; have f2b_6 := f2b_5.below hb10; have f2c_6 := f2c_5.below hb10; clear hb10 hB_5 pg_5 ph_5 sp1_5 f1a_5 f1b_5 f1c_5 f2a_5 f2b_5 f2c_5)
            | (go_at_call 12; (with_reducible refine ((clipPoly ao3 n3 ac3 _ _ _ _ _ HN3.out (by omega) (HPOLY.out.clip HAB1.out SMG.out) SMH.out HAB2.out sp3_0 f2a_6.q f2b_6.q f2c_6.q).mono (fun e w' k => k.m HN4.out)).mono ?_); rintro e w11 ⟨ao4, ac4, rfl, sp4_0, frsp4, hb11⟩; have hB_7 := hB_6.trans (hb11.mono hB_6.size); have pg_7 := pg_6.below hb11; have ph_7 := ph_6.below hb11; have sp1_7 := sp1_6.below hb11; have f1a_7 := f1a_6.below hb11; have f1b_7 := f1b_6.below hb11; have f1c_7 := f1c_6.below hb11; have f2a_7 := f2a_6.below hb11; have f2b_7 := f2b_6.below hb11; have f2c_7 := f2c_6.below hb11; have sp3_1 := sp3_0.below hb11; clear hb11 hB_6 pg_6 ph_6 sp1_6 f1a_6 f1b_6 f1c_6 f2a_6 f2b_6 f2c_6 sp3_0)
            | (go_at_call 12; (with_reducible refine ((clipPoly po n0 pc _ _ _ _ _ HPN.out (by omega) HPOLY.out SMH.out HAB2.out sp1_7 f2a_7.q f2b_7.q f2c_7.q).mono (fun e w' k => k.m HN5.out)).mono ?_); rintro e w12 ⟨ao5, ac5, rfl, sp5_0, frsp5, hb12⟩; have hB_8 := hB_7.trans (hb12.mono hB_7.size); have pg_8 := pg_7.below hb12; have ph_8 := ph_7.below hb12; have sp1_8 := sp1_7.below hb12; have f1a_8 := f1a_7.below hb12; have f1b_8 := f1b_7.below hb12; have f1c_8 := f1c_7.below hb12; have f2a_8 := f2a_7.below hb12; have f2b_8 := f2b_7.below hb12; have f2c_8 := f2c_7.below hb12; have sp3_2 := sp3_1.below hb12; have sp4_1 := sp4_0.below hb12; clear hb12 hB_7 pg_7 ph_7 sp1_7 f1a_7 f1b_7 f1c_7 f2a_7 f2b_7 f2c_7 sp3_1 sp4_0)
            | (go_at_call 12; (with_reducible refine ((clipPoly ao5 n5 ac5 _ _ _ _ _ HN5.out (by omega) (HPOLY.out.clip HAB2.out SMH.out) SMG.out HAB1.out sp5_0 f1a_8.q f1b_8.q f1c_8.q).mono (fun e w' k => k.m HN6.out)).mono ?_); rintro e w13 ⟨ao6, ac6, rfl, sp6_0, frsp6, hb13⟩; have hB_9 := hB_8.trans (hb13.mono hB_8.size); have pg_9 := pg_8.below hb13; have ph_9 := ph_8.below hb13; have sp1_9 := sp1_8.below hb13; have f1a_9 := f1a_8.below hb13; have f1b_9 := f1b_8.below hb13; have f1c_9 := f1c_8.below hb13; have f2a_9 := f2a_8.below hb13; have f2b_9 := f2b_8.below hb13; have f2c_9 := f2c_8.below hb13; have sp3_3 := sp3_2.below hb13; have sp4_2 := sp4_1.below hb13; have sp5_1 := sp5_0.below hb13; clear hb13 hB_8 pg_8 ph_8 sp1_8 f1a_8 f1b_8 f1c_8 f2a_8 f2b_8 f2c_8 sp3_2 sp4_1 sp5_0))
        have hcm := orders_comm (g := (tameQ Xga Dga, tameQ Xgb Dgb, tameQ Xgc Dgc)) (h := (tameQ Xha Dha, tameQ Xhb Dhb, tameQ Xhc Dhc)) HAB1.out HAB2.out HPOLY.out.1
        simp only [] at hcm
        have h46 : n4 = n6 := by have := hcm.2.1; rw [HN4.out, HN6.out] at this; exact this
        subst h46
        have HCM := Lib.hid hcm.2.2; clear hcm
        go_wp2_with fail
        refine (sArea2_any ao4 n4 ac4 _ 7 _ HN4.out (by omega) (by omega) sp4_2.spots).mono ?_
        rintro e w14 ⟨m7, o7, n7, c7, p7, k7, d7, rfl, f7_0, hb14⟩
        have hB_10 := hB_9.trans (hb14.mono hB_9.size)
        have pg_10 := pg_9.below hb14
        have ph_10 := ph_9.below hb14
        have sp1_10 := sp1_9.below hb14
        have f1a_10 := f1a_9.below hb14
        have f1b_10 := f1b_9.below hb14
        have f1c_10 := f1c_9.below hb14
        have f2a_10 := f2a_9.below hb14
        have f2b_10 := f2b_9.below hb14
        have f2c_10 := f2c_9.below hb14
        have sp3_4 := sp3_3.below hb14
        have sp4_3 := sp4_2.below hb14
        have sp5_2 := sp5_1.below hb14
        have sp6_1 := sp6_0.below hb14
        clear hb14 hB_9 pg_9 ph_9 sp1_9 f1a_9 f1b_9 f1c_9 f2a_9 f2b_9 f2c_9 sp3_3 sp4_2 sp5_1 sp6_0
        go_wp2_with fail
        refine (sArea2_any ao6 n4 ac6 _ 7 _ HN6.out (by omega) (by omega) sp6_1.spots).mono ?_
        rintro e w15 ⟨m8, o8, n8, c8, p8, k8, d8, rfl, f8_0, hb15⟩
        have hB_11 := hB_10.trans (hb15.mono hB_10.size)
        have pg_11 := pg_10.below hb15
        have ph_11 := ph_10.below hb15
        have sp1_11 := sp1_10.below hb15
        have f1a_11 := f1a_10.below hb15
        have f1b_11 := f1b_10.below hb15
        have f1c_11 := f1c_10.below hb15
        have f2a_11 := f2a_10.below hb15
        have f2b_11 := f2b_10.below hb15
        have f2c_11 := f2c_10.below hb15
        have sp3_5 := sp3_4.below hb15
        have sp4_4 := sp4_3.below hb15
        have sp5_3 := sp5_2.below hb15
        have sp6_2 := sp6_1.below hb15
        have f7_1 := f7_0.below hb15
        clear hb15 hB_10 pg_10 ph_10 sp1_10 f1a_10 f1b_10 f1c_10 f2a_10 f2b_10 f2c_10 sp3_4 sp4_3 sp5_2 sp6_1 f7_0
        go_wp2_with fail
        refine (qSame_yes _ _ (1 + n4 * ((7 + 7 + 2 + (7 + 7 + 2) + 2) + 2)) (1 + n4 * ((7 + 7 + 2 + (7 + 7 + 2) + 2) + 2)) _ _ _ (by omega) (by omega) f7_1.q f8_0.q HCM.out).mono ?_
        rintro e w16 ⟨rfl, hb16⟩
        have hB_12 := hB_11.trans (hb16.mono hB_11.size)
        have pg_12 := pg_11.below hb16
        have ph_12 := ph_11.below hb16
        have sp1_12 := sp1_11.below hb16
        have f1a_12 := f1a_11.below hb16
        have f1b_12 := f1b_11.below hb16
        have f1c_12 := f1c_11.below hb16
        have f2a_12 := f2a_11.below hb16
        have f2b_12 := f2b_11.below hb16
        have f2c_12 := f2c_11.below hb16
        have sp3_6 := sp3_5.below hb16
        have sp4_5 := sp4_4.below hb16
        have sp5_4 := sp5_3.below hb16
        have sp6_3 := sp6_2.below hb16
        have f7_2 := f7_1.below hb16
        have f8_1 := f8_0.below hb16
        clear hb16 hB_11 pg_11 ph_11 sp1_11 f1a_11 f1b_11 f1c_11 f2a_11 f2b_11 f2c_11 sp3_5 sp4_4 sp5_3 sp6_2 f7_1 f8_0
        clear f7_2 f8_1 sp3_6 sp5_4 sp1_12
        go_wp2
        have F1a := Lib.hid f1a_12
        have F1b := Lib.hid f1b_12
        have F1c := Lib.hid f1c_12
        have SPA := Lib.hid sp4_5; have SPB := Lib.hid sp6_3; have PGG := Lib.hid pg_12
        clear f1a_12 f1b_12 f1c_12 f2a_12 f2b_12 f2c_12 sp4_5 sp6_3 pg_12 ph_12
        have hW_0 := Below.refl w16.heap.size w16
        have hws := hB_12.size
        go_loopw [51] (fun iv wr => ∃ k : Nat, k ≤ n4 ∧ iv = .int .i64 k ∧ Below w.heap.size w wr ∧ Below w16.heap.size w16 wr) (fun iv _ => n4 - (intOf iv).toNat)
        case atStart => exact ⟨0, Nat.zero_le _, rfl, hB_12, hW_0⟩
        case round =>
          obtain ⟨k, hk, rfl, hB_0, hW_0⟩ := hrel
          by_cases hlt : k < n4
          · obtain ⟨⟨x, y⟩, hlk⟩ : ∃ p, (clipQ (tameQ Xha Dha) (tameQ Xhb Dhb) (tameQ Xhc Dhc) (clipQ (tameQ Xga Dga) (tameQ Xgb Dgb) (tameQ Xgc Dgc) P))[k]? = some p := ⟨_, List.getElem?_eq_getElem (by rw [HN4.out]; omega)⟩
            have hin := orders_in (g := (tameQ Xga Dga, tameQ Xgb Dgb, tameQ Xgc Dgc)) (h := (tameQ Xha Dha, tameQ Xhb Dhb, tameQ Xhc Dhc)) HAB1.out HAB2.out HPOLY.out.1 hlk
            obtain ⟨b, o, m9x, o9x, n9x, c9x, p9x, k9x, d9x, m9y, o9y, n9y, c9y, p9y, k9y, d9y, hao, dd, r9x, r9y⟩ := (SPA.out.below hW_0) k x y hlk
            subst hao
            obtain ⟨ee0, ee1, ee2, ee3, ee4, ee5⟩ := dd
            have HIN := Lib.hid hin; clear hin hlk
            have f9x_0 := r9x.q; have f9y_0 := r9y.q; clear r9x r9y
            have sp6_0 := SPB.out.below hW_0
            have hl1B := hB_0.size
            obtain ⟨w17, hw17, pt_0, hb17, hs17⟩ := new_box wr (wr.heap.size) rfl [.bool m9x, .slice o9x n9x c9x, .slice p9x k9x d9x, .bool m9y, .slice o9y n9y c9y, .slice p9y k9y d9y] 42
            have hb17' : Below wr.heap.size wr w17 := hb17.mono (by omega)
            clear hb17
            have hB_1 := hB_0.trans (hb17'.mono hB_0.size)
            have hW_1 := hW_0.trans (hb17'.mono hW_0.size)
            have f9x_1 := f9x_0.below hb17'
            have f9y_1 := f9y_0.below hb17'
            have sp6_1 := sp6_0.below hb17'
            clear hb17' hB_0 hW_0 f9x_0 f9y_0 sp6_0
            obtain ⟨pte0, pte1, pte2, pte3, pte4, pte5, pte6, pte7, pte8, pte9, pte10, pte11⟩ := pt_0.open6
            go_wp2_with fail
            refine (cWithin_any ao6 n4 ac6 _ 7 7 x y true _ HN6.out (by omega) (by omega) (by omega) sp6_1 f9x_1 f9y_1 ⟨fun _ => rfl, fun _ => HIN.out⟩).mono ?_
            rintro e w18 ⟨rfl, hb18⟩
            clear pte0 pte1 pte2 pte3 pte4 pte5 pte6 pte7 pte8 pte9 pte10 pte11
            have hB_2 := hB_1.trans (hb18.mono hB_1.size)
            have hW_2 := hW_1.trans (hb18.mono hW_1.size)
            have f9x_2 := f9x_1.below hb18
            have f9y_2 := f9y_1.below hb18
            have sp6_2 := sp6_1.below hb18
            have pt_1 := pt_0.below hb18
            clear hb18 hB_1 hW_1 f9x_1 f9y_1 sp6_1 pt_0
            clear ee0 ee1 ee2 ee3 ee4 ee5
            go_wp2
            exact ⟨⟨k + 1, by omega, by go_num, hB_2, hW_2⟩, by simp [intOf]; omega⟩
          · obtain rfl : k = n4 := by omega
            have sp4_0 := SPA.out.below hW_0; have pg_0 := PGG.out.below hW_0
            have f1a_0 := F1a.out.below hW_0
            have f1b_0 := F1b.out.below hW_0
            have f1c_0 := F1c.out.below hW_0
            have htw := orders_twice (g := (tameQ Xga Dga, tameQ Xgb Dgb, tameQ Xgc Dgc)) (h := (tameQ Xha Dha, tameQ Xhb Dhb, tameQ Xhc Dhc)) HAB1.out HAB2.out HPOLY.out.1
            simp only [] at htw
            rw [HN4.out] at htw
            have HTW := Lib.hid htw; clear htw
            obtain ⟨pge0, pge1, pge2, pge3, pge4, pge5, pge6, pge7, pge8, pge9, pge10, pge11, pge12, pge13, pge14, pge15, pge16, pge17⟩ := pg_0.open9
            go_wp2_with fail
            refine ((clipPoly ao4 k ac4 _ _ _ _ _ HN4.out (by omega) ((HPOLY.out.clip HAB1.out SMG.out).clip HAB2.out SMH.out) SMG.out HAB1.out sp4_0 f1a_0.q f1b_0.q f1c_0.q).mono (fun e w' j => j.m HTW.out)).mono ?_
            rintro e w17 ⟨ao9, ac9, rfl, sp9_0, frsp9, hb17⟩
            clear pge0 pge1 pge2 pge3 pge4 pge5 pge6 pge7 pge8 pge9 pge10 pge11 pge12 pge13 pge14 pge15 pge16 pge17
            have hB_1 := hB_0.trans (hb17.mono hB_0.size)
            have hW_1 := hW_0.trans (hb17.mono hW_0.size)
            have sp4_1 := sp4_0.below hb17
            have pg_1 := pg_0.below hb17
            have f1a_1 := f1a_0.below hb17
            have f1b_1 := f1b_0.below hb17
            have f1c_1 := f1c_0.below hb17
            clear hb17 hB_0 hW_0 sp4_0 pg_0 f1a_0 f1b_0 f1c_0
            obtain ⟨pge0, pge1, pge2, pge3, pge4, pge5, pge6, pge7, pge8, pge9, pge10, pge11, pge12, pge13, pge14, pge15, pge16, pge17⟩ := pg_1.open9
            have hkk : ((k : Int) == (k : Int)) = true := by simp
            go_wp2_with fail
            refine (clipNone _ _ _ _ SMG.out HAB1.out f1a_1.q f1b_1.q f1c_1.q).mono ?_
            rintro e w18 ⟨ao10, ac10, rfl, sp10_0, frsp10, hb18⟩
            clear pge0 pge1 pge2 pge3 pge4 pge5 pge6 pge7 pge8 pge9 pge10 pge11 pge12 pge13 pge14 pge15 pge16 pge17
            have hB_2 := hB_1.trans (hb18.mono hB_1.size)
            have hW_2 := hW_1.trans (hb18.mono hW_1.size)
            have sp4_2 := sp4_1.below hb18
            have pg_2 := pg_1.below hb18
            have f1a_2 := f1a_1.below hb18
            have f1b_2 := f1b_1.below hb18
            have f1c_2 := f1c_1.below hb18
            have sp9_1 := sp9_0.below hb18
            clear hb18 hB_1 hW_1 sp4_1 pg_1 f1a_1 f1b_1 f1c_1 sp9_0
            go_wp2
            go_ret
            exact ⟨rfl, hB_2⟩
  · right
    refine ⟨?_, fun i hi => ?_⟩
    · clear zF F0 F1 F2 F3
      cases lb0
      · exact ready_of 0 _ rfl rfl (by kernel_rfl)
      cases lb1
      · exact ready_of 1 _ rfl rfl (by kernel_rfl)
      cases lb2
      · exact ready_of 2 _ rfl rfl (by kernel_rfl)
      cases lb3
      · exact ready_of 3 _ rfl rfl (by kernel_rfl)
      exact absurd ⟨rfl, rfl, rfl, rfl⟩ hL
    have hd : (lb0 = false ∧ i = 0) ∨ (lb1 = false ∧ lb0 = true ∧ i = 1) ∨ (lb2 = false ∧ i = 2) ∨ (lb3 = false ∧ lb2 = true ∧ lb1 = true ∧ i = 3) := by
      have hin := ready_lt hi
      obtain rfl | rfl | rfl | rfl | rfl | rfl : i = 0 ∨ i = 1 ∨ i = 2 ∨ i = 3 ∨ i = 4 ∨ i = 5 := by have hin' : i < 6 := hin; omega
      · exact .inl ⟨ready_off hi, rfl⟩
      · exact .inr (.inl ⟨ready_off hi, ready_dep (d := 0) hi (by kernel_rfl), rfl⟩)
      · exact .inr (.inr (.inl ⟨ready_off hi, rfl⟩))
      · exact .inr (.inr (.inr (⟨ready_off hi, ready_dep (d := 2) hi (by kernel_rfl), ready_dep (d := 1) hi (by kernel_rfl), rfl⟩)))
      · have k1 : lb1 = true := ready_dep (d := 1) hi (by kernel_rfl); have k3 : lb3 = true := ready_dep (d := 3) hi (by kernel_rfl); have k0 : lb0 = true := ready_dep (d := 0) hi (by kernel_rfl)
        have k2 := dp3_2 k3
        exact absurd ⟨k0, k1, k2, k3⟩ hL
      · exact absurd (ready_dep (d := 4) hi (by kernel_rfl)) (fun h => Bool.noConfusion (show false = true from h))
    clear hi hL
    rcases hd with ⟨rfl, rfl⟩ | ⟨rfl, rfl, rfl⟩ | ⟨rfl, rfl⟩ | ⟨rfl, rfl, rfl, rfl⟩
    · obtain ⟨-, -, -, -, -, -, -, pg_0, -, -, -⟩ := (hFFi _).1 zF
      obtain ⟨pge0, pge1, pge2, pge3, pge4, pge5, pge6, pge7, pge8, pge9, pge10, pge11, pge12, pge13, pge14, pge15, pge16, pge17⟩ := pg_0.open9
      refine step_of 0 ?_ ?_ (fun K hK => ?_)
      rotate_left 1
      · simp only [List.getElem?_toArray, List.getElem?_cons_zero]; exact rfl
      rw [HAi.out]
      try simp only [Act.put]
      try simp only [List.setIfInBounds_toArray, List.set_cons_zero, List.set_cons_succ]
      go_simp
      refine hK.out _ _ (sFi zF) ?_
      exact (hIVi _ _ _).2 (fun CC kk => kk true lb1 lb2 lb3 (.agg #[.bool gam, .slice gao gan gac, .slice gap gak gad, .bool gbm, .slice gbo gbn gbc, .slice gbp gbk gbd, .bool gcm, .slice gco gcn gcc, .slice gcp gck gcd]) lv1 lv2 lv3 m1a o1a n1a c1a p1a k1a d1a m1b o1b n1b c1b p1b k1b d1b m1c o1c n1c c1c p1c k1c d1c m2a o2a n2a c2a p2a k2a d2a m2b o2b n2b c2b p2b k2b d2b m2c o2c n2c c2c p2c k2c d2c rfl (by simp only [HAi.out, Act.put, List.setIfInBounds_toArray, List.set_cons_zero, List.set_cons_succ]) zF (fun _ => rfl) (fun h => absurd (dp1_0 h) (by decide)) F2 (fun h => absurd (dp1_0 (dp3_1 h)) (by decide)) (fun _ => rfl) dp3_2 dp3_1)
    · obtain rfl := F0 rfl
      clear F0
      obtain ⟨-, fga_0, fgb_0, fgc_0, -, -, -, -, -, -, -⟩ := (hFFi _).1 zF
      refine step_of 1 ?_ ?_ (fun K hK => ?_)
      rotate_left 1
      · simp only [List.getElem?_toArray, List.getElem?_cons_succ, List.getElem?_cons_zero]; exact rfl
      rw [HAi.out]
      try simp only [Act.put]
      try simp only [List.setIfInBounds_toArray, List.set_cons_zero, List.set_cons_succ]
      go_simp
      refine (htame_any Lga Lgb Lgc Xga Xgb Xgc Dga Dgb Dgc _ fga_0 fgb_0 fgc_0).mono ?_
      rintro e w8 ⟨m1a, o1a, n1a, c1a, p1a, k1a, d1a, m1b, o1b, n1b, c1b, p1b, k1b, d1b, m1c, o1c, n1c, c1c, p1c, k1c, d1c, rfl, f1a_0, f1b_0, f1c_0, hb⟩
      go_wp2_with fail
      refine hK.out _ _ (sFi (cFi zF hb)) ?_
      exact (hIVi _ _ _).2 (fun CC kk => kk true true lb2 lb3 _ (.agg #[.bool m1a, .slice o1a n1a c1a, .slice p1a k1a d1a, .bool m1b, .slice o1b n1b c1b, .slice p1b k1b d1b, .bool m1c, .slice o1c n1c c1c, .slice p1c k1c d1c]) lv2 lv3 m1a o1a n1a c1a p1a k1a d1a m1b o1b n1b c1b p1b k1b d1b m1c o1c n1c c1c p1c k1c d1c m2a o2a n2a c2a p2a k2a d2a m2b o2b n2b c2b p2b k2b d2b m2c o2c n2c c2c p2c k2c d2c rfl (by simp only [HAi.out, Act.put, List.setIfInBounds_toArray, List.set_cons_zero, List.set_cons_succ]) (cFi zF hb) (fun _ => rfl) (fun _ => ⟨rfl, f1a_0, f1b_0, f1c_0⟩) F2 (fun h => absurd (dp3_1 h) (by decide)) (fun _ => rfl) dp3_2 (fun _ => rfl))
    · obtain ⟨-, -, -, -, -, -, -, -, ph_0, -, -⟩ := (hFFi _).1 zF
      obtain ⟨phe0, phe1, phe2, phe3, phe4, phe5, phe6, phe7, phe8, phe9, phe10, phe11, phe12, phe13, phe14, phe15, phe16, phe17⟩ := ph_0.open9
      refine step_of 2 ?_ ?_ (fun K hK => ?_)
      rotate_left 1
      · simp only [List.getElem?_toArray, List.getElem?_cons_succ, List.getElem?_cons_zero]; exact rfl
      rw [HAi.out]
      try simp only [Act.put]
      try simp only [List.setIfInBounds_toArray, List.set_cons_zero, List.set_cons_succ]
      go_simp
      refine hK.out _ _ (sFi zF) ?_
      exact (hIVi _ _ _).2 (fun CC kk => kk lb0 lb1 true lb3 lv0 lv1 (.agg #[.bool ham, .slice hao han hac, .slice hap hak had, .bool hbm, .slice hbo hbn hbc, .slice hbp hbk hbd, .bool hcm, .slice hco hcn hcc, .slice hcp hck hcd]) lv3 m1a o1a n1a c1a p1a k1a d1a m1b o1b n1b c1b p1b k1b d1b m1c o1c n1c c1c p1c k1c d1c m2a o2a n2a c2a p2a k2a d2a m2b o2b n2b c2b p2b k2b d2b m2c o2c n2c c2c p2c k2c d2c rfl (by simp only [HAi.out, Act.put, List.setIfInBounds_toArray, List.set_cons_zero, List.set_cons_succ]) zF F0 F1 (fun _ => rfl) (fun h => absurd (dp3_2 h) (by decide)) dp1_0 (fun _ => rfl) dp3_1)
    · obtain rfl := dp1_0 rfl
      obtain rfl := F0 rfl
      clear F0
      obtain ⟨rfl, f1a_0, f1b_0, f1c_0⟩ := F1 rfl
      clear F1
      obtain rfl := F2 rfl
      clear F2
      obtain ⟨-, -, -, -, fha_0, fhb_0, fhc_0, -, -, -, -⟩ := (hFFi _).1 zF
      refine step_of 3 ?_ ?_ (fun K hK => ?_)
      rotate_left 1
      · simp only [List.getElem?_toArray, List.getElem?_cons_succ, List.getElem?_cons_zero]; exact rfl
      rw [HAi.out]
      try simp only [Act.put]
      try simp only [List.setIfInBounds_toArray, List.set_cons_zero, List.set_cons_succ]
      go_simp
      refine (htame_any Lha Lhb Lhc Xha Xhb Xhc Dha Dhb Dhc _ fha_0 fhb_0 fhc_0).mono ?_
      rintro e w9 ⟨m2a, o2a, n2a, c2a, p2a, k2a, d2a, m2b, o2b, n2b, c2b, p2b, k2b, d2b, m2c, o2c, n2c, c2c, p2c, k2c, d2c, rfl, f2a_0, f2b_0, f2c_0, hb⟩
      go_wp2_with fail
      refine hK.out _ _ (sFi (cFi zF hb)) ?_
      exact (hIVi _ _ _).2 (fun CC kk => kk true true true true _ _ _ (.agg #[.bool m2a, .slice o2a n2a c2a, .slice p2a k2a d2a, .bool m2b, .slice o2b n2b c2b, .slice p2b k2b d2b, .bool m2c, .slice o2c n2c c2c, .slice p2c k2c d2c]) m1a o1a n1a c1a p1a k1a d1a m1b o1b n1b c1b p1b k1b d1b m1c o1c n1c c1c p1c k1c d1c m2a o2a n2a c2a p2a k2a d2a m2b o2b n2b c2b p2b k2b d2b m2c o2c n2c c2c p2c k2c d2c rfl (by simp only [HAi.out, Act.put, List.setIfInBounds_toArray, List.set_cons_zero, List.set_cons_succ]) (cFi zF hb) (fun _ => rfl) (fun _ => ⟨rfl, f1a_0.below hb, f1b_0.below hb, f1c_0.below hb⟩) (fun _ => rfl) (fun _ => ⟨rfl, f2a_0, f2b_0, f2c_0⟩) (fun _ => rfl) (fun _ => rfl) (fun _ => rfl))
end Go.Proofs.Ytdfabocecpcmcaa
