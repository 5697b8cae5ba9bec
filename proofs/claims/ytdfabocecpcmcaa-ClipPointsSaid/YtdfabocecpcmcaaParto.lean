/- From the form of the rows to the walks of layer 8: what a Half, and a slice of them, read as. -/
import Derived.Test.YtdfabocecpcmcaaParti
import Derived.Test.YtdfabocecpcmcaaPartn
import Derived.Deep.Slices
import Derived.Deep.Strs
import Derived.Test.YtdfabocecpcmcaaPartl
namespace Go.Proofs.Ytdfabocecpcmcaa
open Go.ChangeShapes Go.WideShapes Go.RowKit Go.MagM
theorem halfCells : Try.prog.cellsOf 30 = 9 := by kernel_rfl
/-- Nine cells that read as a Half. -/
theorem open_half {H : Type} {enc : TypeId × Value → H} {W : World} {n : Nat} {c0 c1 c2 c3 c4 c5 c6 c7 c8 : Value} {x : DataW H × List MemPlace} (hf : DataW.trod enc Try.prog W 0 (fun _ => true) true n 30 [c0, c1, c2, c3, c4, c5, c6, c7, c8] = some x) :
    ∃ ma oa na ca pa ka da mb ob nb cb pb kb db mc oc nc cc pc kc dc La Xa Da Lb Xb Db Lc Xc Dc, c0 = .bool ma ∧ c1 = .slice oa na ca ∧ c2 = .slice pa ka da ∧ c3 = .bool mb ∧ c4 = .slice ob nb cb ∧ c5 = .slice pb kb db ∧ c6 = .bool mc ∧ c7 = .slice oc nc cc ∧ c8 = .slice pc kc dc ∧ FD W (.agg #[.bool ma, .slice oa na ca, .slice pa ka da]) La Xa Da ∧ FD W (.agg #[.bool mb, .slice ob nb cb, .slice pb kb db]) Lb Xb Db ∧ FD W (.agg #[.bool mc, .slice oc nc cc, .slice pc kc dc]) Lc Xc Dc := by
  obtain ⟨y0, y1, y2, n, _, _, h0, h1, h2⟩ := Go.Deep.trod_struct3 Try.underlying30 hf
  have h0' : DataW.trod enc Try.prog W 0 (fun _ => true) true n 28 [c0, c1, c2] = some y0 := by
    rw [← h0]; simp [cells27]
  have h1' : DataW.trod enc Try.prog W 0 (fun _ => true) true n 28 [c3, c4, c5] = some y1 := by
    rw [← h1]; simp [cells27]
  have h2' : DataW.trod enc Try.prog W 0 (fun _ => true) true n 28 [c6, c7, c8] = some y2 := by
    rw [← h2]; simp [cells27]
  obtain ⟨ma, oa, na, ca, pa, ka, da, La, Xa, Da, rfl, rfl, rfl, hA⟩ := open_frac h0'
  obtain ⟨mb, ob, nb, cb, pb, kb, db, Lb, Xb, Db, rfl, rfl, rfl, hB⟩ := open_frac h1'
  obtain ⟨mc, oc, nc, cc, pc, kc, dc, Lc, Xc, Dc, rfl, rfl, rfl, hC⟩ := open_frac h2'
  exact ⟨ma, oa, na, ca, pa, ka, da, mb, ob, nb, cb, pb, kb, db, mc, oc, nc, cc, pc, kc, dc, La, Xa, Da, Lb, Xb, Db, Lc, Xc, Dc, rfl, rfl, rfl, rfl, rfl, rfl, rfl, rfl, rfl, hA, hB, hC⟩
theorem list9_of {l : List Value} (h : l.length = 9) : ∃ c0 c1 c2 c3 c4 c5 c6 c7 c8, l = [c0, c1, c2, c3, c4, c5, c6, c7, c8] := by
  match l, h with
  | [c0, c1, c2, c3, c4, c5, c6, c7, c8], _ => exact ⟨c0, c1, c2, c3, c4, c5, c6, c7, c8, rfl⟩
theorem array9_of {a : Array Value} (h : a.size = 9) : ∃ c0 c1 c2 c3 c4 c5 c6 c7 c8, a = #[c0, c1, c2, c3, c4, c5, c6, c7, c8] := by
  obtain ⟨c0, c1, c2, c3, c4, c5, c6, c7, c8, e⟩ := list9_of (l := a.toList) (by simpa using h)
  exact ⟨c0, c1, c2, c3, c4, c5, c6, c7, c8, by apply Array.ext'; simpa using e⟩
set_option maxRecDepth 100000 in
/-- What a Half reads as. -/
theorem view_half {H : Type} {enc : TypeId × Value → H} {W : World} {b0 : Nat} {v : Value} {d : DataW H} {p : List MemPlace} (hv : Value.okWide Try.prog W .any b0 30 v)
    (h : DataW.Trod enc Try.prog W 0 (fun _ => true) true 30 v d p) :
    ∃ ma oa na ca pa ka da mb ob nb cb pb kb db mc oc nc cc pc kc dc La Xa Da Lb Xb Db Lc Xc Dc, v = .agg #[.bool ma, .slice oa na ca, .slice pa ka da, .bool mb, .slice ob nb cb, .slice pb kb db, .bool mc, .slice oc nc cc, .slice pc kc dc] ∧ FD W (.agg #[.bool ma, .slice oa na ca, .slice pa ka da]) La Xa Da ∧ FD W (.agg #[.bool mb, .slice ob nb cb, .slice pb kb db]) Lb Xb Db ∧ FD W (.agg #[.bool mc, .slice oc nc cc, .slice pc kc dc]) Lc Xc Dc := by
  obtain ⟨cs, rfl, hsz⟩ := okWide_struct Try.underlying30 hv
  obtain ⟨c0, c1, c2, c3, c4, c5, c6, c7, c8, rfl⟩ := array9_of (hsz.trans halfCells)
  obtain ⟨fuel, hf⟩ := h
  obtain ⟨ma, oa, na, ca, pa, ka, da, mb, ob, nb, cb, pb, kb, db, mc, oc, nc, cc, pc, kc, dc, La, Xa, Da, Lb, Xb, Db, Lc, Xc, Dc, rfl, rfl, rfl, rfl, rfl, rfl, rfl, rfl, rfl, hA, hB, hC⟩ := open_half (by simpa [Value.cells] using hf)
  exact ⟨ma, oa, na, ca, pa, ka, da, mb, ob, nb, cb, pb, kb, db, mc, oc, nc, cc, pc, kc, dc, La, Xa, Da, Lb, Xb, Db, Lc, Xc, Dc, rfl, hA, hB, hC⟩
set_option maxRecDepth 100000 in
/-- What a slice of Halves reads as. -/
theorem view_halves {H : Type} {enc : TypeId × Value → H} {W : World} {b0 : Nat} {v : Value} {d : DataW H} {p : List MemPlace} (hv : Value.okWide Try.prog W .any b0 22 v)
    (h : DataW.Trod enc Try.prog W 0 (fun _ => true) true 22 v d p) :
    ∃ ao n c l, v = .slice ao n c ∧ l.length = n ∧ n ≤ c ∧ HRaws W ao l := by
  obtain ⟨ao, n, c, rfl⟩ := okWide_slice Try.underlying22 hv
  obtain ⟨fuel, hf⟩ := h
  rcases Go.Deep.open_slice Try.underlying22 hf with ⟨hcs, _⟩ | ⟨a, len, cap, m, k, D, Pl, hcs, _, hlc, _, hm, _, hx⟩
  · simp [Value.cells] at hcs
    obtain ⟨rfl, rfl, rfl⟩ := hcs
    exact ⟨_, _, _, [], rfl, rfl, Nat.le_refl _, fun i Xa Da Xb Db Xc Dc hi => by simp at hi⟩
  · simp [Value.cells] at hcs
    obtain ⟨rfl, rfl, rfl⟩ := hcs
    simp only [if_true] at hm
    subst hm
    obtain ⟨ab, ao, as'⟩ := a
    have hs : 0 < n → as' = none := fun h0 => by
      obtain ⟨cs', h1, _⟩ := hx 0 (by omega)
      rw [halfCells] at h1
      obtain ⟨_, hlen, hcell⟩ := World.cells?_some h1
      obtain ⟨c0, c1, c2, c3, c4, c5, c6, c7, c8, rfl⟩ := list9_of hlen
      have hsp := World.cell?_spot (hcell 0 (by omega))
      simpa [Addr.add] using hsp
    have each : ∀ i, i < n → ∃ q : RawH, ∃ ma oa na ca pa ka da mb ob nb cb pb kb db mc oc nc cc pc kc dc, as' = none ∧ At9 W ab (ao + i * 9) (.bool ma) (.slice oa na ca) (.slice pa ka da) (.bool mb) (.slice ob nb cb) (.slice pb kb db) (.bool mc) (.slice oc nc cc) (.slice pc kc dc) ∧
        (∃ L, FD W (.agg #[.bool ma, .slice oa na ca, .slice pa ka da]) L q.1 q.2.1) ∧ (∃ L, FD W (.agg #[.bool mb, .slice ob nb cb, .slice pb kb db]) L q.2.2.1 q.2.2.2.1) ∧ (∃ L, FD W (.agg #[.bool mc, .slice oc nc cc, .slice pc kc dc]) L q.2.2.2.2.1 q.2.2.2.2.2) := by
      intro i hi
      obtain ⟨cs', h1, h2⟩ := hx i (by omega)
      rw [halfCells] at h1
      obtain ⟨_, hlen, hcell⟩ := World.cells?_some h1
      obtain ⟨c0, c1, c2, c3, c4, c5, c6, c7, c8, rfl⟩ := list9_of hlen
      obtain ⟨ma, oa, na, ca, pa, ka, da, mb, ob, nb, cb, pb, kb, db, mc, oc, nc, cc, pc, kc, dc, La, Xa, Da, Lb, Xb, Db, Lc, Xc, Dc, rfl, rfl, rfl, rfl, rfl, rfl, rfl, rfl, rfl, hA, hB, hC⟩ := open_half h2
      obtain rfl := hs (by omega)
      rw [addr_add] at hcell
      refine ⟨(Xa, Da, Xb, Db, Xc, Dc), ma, oa, na, ca, pa, ka, da, mb, ob, nb, cb, pb, kb, db, mc, oc, nc, cc, pc, kc, dc, rfl, ⟨?_, ?_, ?_, ?_, ?_, ?_, ?_, ?_, ?_⟩, ⟨La, hA⟩, ⟨Lb, hB⟩, ⟨Lc, hC⟩⟩
      · have := hcell 0 (by omega); rw [addr_add] at this; exact this
      · have := hcell 1 (by omega); rw [addr_add] at this; exact this
      · have := hcell 2 (by omega); rw [addr_add] at this; exact this
      · have := hcell 3 (by omega); rw [addr_add] at this; exact this
      · have := hcell 4 (by omega); rw [addr_add] at this; exact this
      · have := hcell 5 (by omega); rw [addr_add] at this; exact this
      · have := hcell 6 (by omega); rw [addr_add] at this; exact this
      · have := hcell 7 (by omega); rw [addr_add] at this; exact this
      · have := hcell 8 (by omega); rw [addr_add] at this; exact this
    obtain ⟨f, hfa⟩ := Go.Deep.choose_lt each
    refine ⟨_, _, _, (List.range n).map f, rfl, by simp, hlc, fun i Xa Da Xb Db Xc Dc hi => ?_⟩
    have hin : i < n := by have := (List.getElem?_eq_some_iff.1 hi).1; simpa using this
    have hq : f i = (Xa, Da, Xb, Db, Xc, Dc) := by
      rw [List.getElem?_map, List.getElem?_range hin] at hi
      simpa using hi
    obtain ⟨ma, oa, na, ca, pa, ka, da, mb, ob, nb, cb, pb, kb, db, mc, oc, nc, cc, pc, kc, dc, rfl, h1, h2, h3, h4⟩ := hfa i hin
    rw [hq] at h2 h3 h4
    exact ⟨ab, ao, ma, oa, na, ca, pa, ka, da, mb, ob, nb, cb, pb, kb, db, mc, oc, nc, cc, pc, kc, dc, rfl, h1, h2, h3, h4⟩
end Go.Proofs.Ytdfabocecpcmcaa
/- The statements' own shape. -/
namespace Go.Proofs.Ytdfabocecpcmcaa
open Go.RowKit Go.MagM
set_option maxRecDepth 100000 in
set_option maxHeartbeats 16000000 in
theorem cshape_any (ao : Option Addr) (n c : Nat) (l : List RawH) (w : World) (hn : l.length = n) (hc : n ≤ c) (hr : HRaws w ao l) :
    Calls Try.prog 9 #[.slice ao n c] w fun e w' => AnsP w w' e := by
  have hB_0 := Below.refl w.heap.size w
  obtain ⟨h, uo, e1, e2, h5, hl, hraw⟩ := half_cut hn hc w hr
  have HR := Lib.hid hraw; have HL := Lib.hid hl; clear hraw hl hr hn
  go_enter Try.func9, Try.ntmps9
  go_wp2_with fail
  refine (box20n _).mono ?_
  rintro e w1 ⟨ao1, ac1, rfl, sp1_0, fr1, hb1⟩
  have hB_1 := hB_0.trans (hb1.mono hB_0.size)
  clear hb1 hB_0
  go_wp2
  go_loopw [3, 14] (fun pv iv wr => ∃ k n0 : Nat, ∃ P : List (Rat × Rat), ∃ ao c, k ≤ h ∧ iv = .int .i64 k ∧ pv = .slice ao n0 c ∧ P.length = n0 ∧ n0 ≤ 4 + 2 * k ∧ Poly P ∧ (∀ a, ao = some a → w.heap.size ≤ a.block) ∧ SpotsR wr ao 7 P ∧ Below w.heap.size w wr) (fun _ iv _ => h - (intOf iv).toNat)
  case atStart => exact ⟨0, 4, boxQ ((20 : Int) : Rat), _, _, Nat.zero_le _, rfl, rfl, rfl, by omega, box_poly (by omega) (by show 20 < B; unfold B; omega), fr1, sp1_0, hB_1⟩
  case round =>
    obtain ⟨k, n0, P, po, pc, hk, rfl, rfl, hP, hn0, hpoly, frsp, sp_0, hB_0⟩ := hrel
    have HP := Lib.hid hP; have HPOLY := Lib.hid hpoly; clear hP hpoly
    by_cases hlt : k < h
    · obtain ⟨⟨Xa, Da, Xb, Db, Xc, Dc⟩, hlk⟩ : ∃ q, (l.take h)[k]? = some q := ⟨_, List.getElem?_eq_getElem (by rw [HL.out]; omega)⟩
      obtain ⟨b, o, m1a, o1a, n1a, c1a, p1a, k1a, d1a, m1b, o1b, n1b, c1b, p1b, k1b, d1b, m1c, o1c, n1c, c1c, p1c, k1c, d1c, hao, dd, ⟨La, f1a_0⟩, ⟨Lb, f1b_0⟩, ⟨Lc, f1c_0⟩⟩ := (HR.out.below hB_0) k Xa Da Xb Db Xc Dc hlk
      subst hao
      clear hlk
      obtain ⟨ee0, ee1, ee2, ee3, ee4, ee5, ee6, ee7, ee8⟩ := dd
      have ss1 := tame_small Xa Da; have ss2 := tame_small Xb Db; have ss3 := tame_small Xc Dc
      have SML := Lib.hid (show SmlH (tameQ Xa Da, tameQ Xb Db, tameQ Xc Dc) from ⟨ss1, ss2, ss3⟩)
      clear ss1 ss2 ss3
      have hl1B := hB_0.size
      obtain ⟨w2, hw2, ph_0, hb2, hs2⟩ := new_box wr (wr.heap.size) rfl [.bool m1a, .slice o1a n1a c1a, .slice p1a k1a d1a, .bool m1b, .slice o1b n1b c1b, .slice p1b k1b d1b, .bool m1c, .slice o1c n1c c1c, .slice p1c k1c d1c] 30
      have hb2' : Below wr.heap.size wr w2 := hb2.mono (by omega)
      clear hb2
      have hB_1 := hB_0.trans (hb2'.mono hB_0.size)
      have sp_1 := sp_0.below hb2'
      have f1a_1 := f1a_0.below hb2'
      have f1b_1 := f1b_0.below hb2'
      have f1c_1 := f1c_0.below hb2'
      clear hb2' hB_0 sp_0 f1a_0 f1b_0 f1c_0
      obtain ⟨phe0, phe1, phe2, phe3, phe4, phe5, phe6, phe7, phe8, phe9, phe10, phe11, phe12, phe13, phe14, phe15, phe16, phe17⟩ := ph_0.open9
      go_wp2_with fail
      refine (htame_any La Lb Lc Xa Xb Xc Da Db Dc _ f1a_1 f1b_1 f1c_1).mono ?_
      rintro e w3 ⟨m2a, o2a, n2a, c2a, p2a, k2a, d2a, m2b, o2b, n2b, c2b, p2b, k2b, d2b, m2c, o2c, n2c, c2c, p2c, k2c, d2c, rfl, f2a_0, f2b_0, f2c_0, hb3⟩
      clear phe0 phe1 phe2 phe3 phe4 phe5 phe6 phe7 phe8 phe9 phe10 phe11 phe12 phe13 phe14 phe15 phe16 phe17
      have hB_2 := hB_1.trans (hb3.mono hB_1.size)
      have sp_2 := sp_1.below hb3
      have f1a_2 := f1a_1.below hb3
      have f1b_2 := f1b_1.below hb3
      have f1c_2 := f1c_1.below hb3
      have ph_1 := ph_0.below hb3
      clear hb3 hB_1 sp_1 f1a_1 f1b_1 f1c_1 ph_0
      clear ee0 ee1 ee2 ee3 ee4 ee5 ee6 ee7 ee8
      clear f1a_2 f1b_2 f1c_2 ph_1
      have hl2B := hB_2.size
      obtain ⟨w4, hw4, pg_0, hb4, hs4⟩ := new_box w3 (w3.heap.size) rfl [.bool m2a, .slice o2a n2a c2a, .slice p2a k2a d2a, .bool m2b, .slice o2b n2b c2b, .slice p2b k2b d2b, .bool m2c, .slice o2c n2c c2c, .slice p2c k2c d2c] 30
      have hb4' : Below w3.heap.size w3 w4 := hb4.mono (by omega)
      clear hb4
      have hB_3 := hB_2.trans (hb4'.mono hB_2.size)
      have sp_3 := sp_2.below hb4'
      have f2a_1 := f2a_0.below hb4'
      have f2b_1 := f2b_0.below hb4'
      have f2c_1 := f2c_0.below hb4'
      clear hb4' hB_2 sp_2 f2a_0 f2b_0 f2c_0
      obtain ⟨pge0, pge1, pge2, pge3, pge4, pge5, pge6, pge7, pge8, pge9, pge10, pge11, pge12, pge13, pge14, pge15, pge16, pge17⟩ := pg_0.open9
      by_cases hfl : tameQ Xa Da = 0 ∧ tameQ Xb Db = 0
      · go_wp2_with fail
        refine (hflat_any 1 _ _ _ (by omega) f2a_1.q f2b_1.q true ⟨fun _ => rfl, fun _ => hfl⟩).mono ?_
        rintro e w5 ⟨rfl, hb5⟩
        clear pge0 pge1 pge2 pge3 pge4 pge5 pge6 pge7 pge8 pge9 pge10 pge11 pge12 pge13 pge14 pge15 pge16 pge17
        have hB_4 := hB_3.trans (hb5.mono hB_3.size)
        have sp_4 := sp_3.below hb5
        have f2a_2 := f2a_1.below hb5
        have f2b_2 := f2b_1.below hb5
        have f2c_2 := f2c_1.below hb5
        have pg_1 := pg_0.below hb5
        clear hb5 hB_3 sp_3 f2a_1 f2b_1 f2c_1 pg_0
        go_wp2
        refine ⟨⟨k + 1, n0, P, _, _, by omega, by go_num, rfl, HP.out, by omega, HPOLY.out, frsp, sp_4, hB_4⟩, by simp [intOf]; omega⟩
      · have HF := Lib.hid hfl; clear hfl
        go_wp2_with fail
        refine (hflat_any 1 _ _ _ (by omega) f2a_1.q f2b_1.q false ⟨fun h => absurd h HF.out, fun h => by cases h⟩).mono ?_
        rintro e w5 ⟨rfl, hb5⟩
        clear pge0 pge1 pge2 pge3 pge4 pge5 pge6 pge7 pge8 pge9 pge10 pge11 pge12 pge13 pge14 pge15 pge16 pge17
        have hB_4 := hB_3.trans (hb5.mono hB_3.size)
        have sp_4 := sp_3.below hb5
        have f2a_2 := f2a_1.below hb5
        have f2b_2 := f2b_1.below hb5
        have f2c_2 := f2c_1.below hb5
        have pg_1 := pg_0.below hb5
        clear hb5 hB_3 sp_3 f2a_1 f2b_1 f2c_1 pg_0
        obtain ⟨pge0, pge1, pge2, pge3, pge4, pge5, pge6, pge7, pge8, pge9, pge10, pge11, pge12, pge13, pge14, pge15, pge16, pge17⟩ := pg_1.open9
        have hAB : tameQ Xa Da ≠ 0 ∨ tameQ Xb Db ≠ 0 := by
          by_cases e : tameQ Xa Da = 0
          · exact .inr (fun e2 => HF.out ⟨e, e2⟩)
          · exact .inl e
        have HAB := Lib.hid hAB; clear hAB
        have hws3 := hB_4.size
        go_wp2_with fail
        refine (clipPoly po n0 pc P _ _ _ _ HP.out (by omega) HPOLY.out SML.out HAB.out sp_4 f2a_2.q f2b_2.q f2c_2.q).mono ?_
        rintro e w6 ⟨ao3, ac3, rfl, sp3_0, fr3, hb6⟩
        clear pge0 pge1 pge2 pge3 pge4 pge5 pge6 pge7 pge8 pge9 pge10 pge11 pge12 pge13 pge14 pge15 pge16 pge17
        have hB_5 := hB_4.trans (hb6.mono hB_4.size)
        have sp_5 := sp_4.below hb6
        have f2a_3 := f2a_2.below hb6
        have f2b_3 := f2b_2.below hb6
        have f2c_3 := f2c_2.below hb6
        have pg_2 := pg_1.below hb6
        clear hb6 hB_4 sp_4 f2a_2 f2b_2 f2c_2 pg_1
        have hcl := clip_len (A := tameQ Xa Da) (B := tameQ Xb Db) (C := tameQ Xc Dc) HAB.out HPOLY.out.1
        rw [HP.out] at hcl
        generalize hLn : (clipQ (tameQ Xa Da) (tameQ Xb Db) (tameQ Xc Dc) P).length = n3 at *
        have HLN := Lib.hid hLn; clear hLn
        go_wp2
        refine ⟨⟨k + 1, n3, _, _, _, by omega, by go_num, rfl, HLN.out, by omega, HPOLY.out.clip HAB.out SML.out, fun a ha => by have h1 := fr3 a ha; have h2 := hws3; omega, sp3_0, hB_5⟩, by simp [intOf]; omega⟩
    · obtain rfl : k = h := by omega
      go_wp2
      go_ret
      have hP := HP.out
      exact ⟨po, pc, P, by rw [hP]; rfl, by omega, HPOLY.out, sp_0, frsp, hB_0⟩
end Go.Proofs.Ytdfabocecpcmcaa
/- The statement ClipHalves, walked. -/
namespace Go.Proofs.Ytdfabocecpcmcaa
open Go.RowKit Go.MagM
theorem corner_clip {A B C : Rat} {P : List (Rat × Rat)} (hP : Conv0 P) {k : Nat} {x y : Rat} (h : (clipQ A B C P)[k]? = some (x, y)) : InL P (x, y) ∧ fvQ A B C (x, y) ≤ 0 := by
  have hk := (List.getElem?_eq_some_iff.1 h).1
  have hne : clipQ A B C P ≠ [] := fun e => by rw [e] at hk; simp at hk
  have hc : Conv P := by
    rcases hP with rfl | h
    · exact absurd clip_nil hne
    · exact h
  have h1 := corner_in (clip_conv hc hne) hk
  rw [at_cor0 h] at h1
  exact (clip_points hc hne _).1 h1
set_option maxRecDepth 100000 in
set_option maxHeartbeats 32000000 in
theorem ClipHalves_walk {ao : Option Addr} {n c : Nat} {l : List RawH} {ham : Bool} {hao : Option Addr} {han hac : Nat} {hap : Option Addr} {hak had : Nat} {hbm : Bool} {hbo : Option Addr} {hbn hbc : Nat} {hbp : Option Addr} {hbk hbd : Nat} {hcm : Bool} {hco : Option Addr} {hcn hcc : Nat} {hcp : Option Addr} {hck hcd : Nat} {Lha : Nat} {Xha : Int} {Dha : Nat} {Lhb : Nat} {Xhb : Int} {Dhb : Nat} {Lhc : Nat} {Xhc : Int} {Dhc : Nat} (w : World) (hn : l.length = n) (hc : n ≤ c) (hr : HRaws w ao l) (fha_0 : FD w (.agg #[.bool ham, .slice hao han hac, .slice hap hak had]) Lha Xha Dha) (fhb_0 : FD w (.agg #[.bool hbm, .slice hbo hbn hbc, .slice hbp hbk hbd]) Lhb Xhb Dhb) (fhc_0 : FD w (.agg #[.bool hcm, .slice hco hcn hcc, .slice hcp hck hcd]) Lhc Xhc Dhc) :
    Calls Try.prog 3 #[.slice ao n c, .agg #[.bool ham, .slice hao han hac, .slice hap hak had, .bool hbm, .slice hbo hbn hbc, .slice hbp hbk hbd, .bool hcm, .slice hco hcn hcc, .slice hcp hck hcd]] w fun e w' => e = .returned (.bool true) ∧ Below w.heap.size w w' := by
  have hB_0 := Below.refl w.heap.size w
  have HRR := Lib.hid hr; have HNN := Lib.hid hn; clear hr hn
  obtain ⟨w1, hw1, ph_0, hb1, hs1⟩ := new_box w (w.heap.size) rfl [.bool ham, .slice hao han hac, .slice hap hak had, .bool hbm, .slice hbo hbn hbc, .slice hbp hbk hbd, .bool hcm, .slice hco hcn hcc, .slice hcp hck hcd] 30
  have hb1' : Below w.heap.size w w1 := hb1.mono (by omega)
  clear hb1
  have hB_1 := hB_0.trans (hb1'.mono hB_0.size)
  have fha_1 := fha_0.below hb1'
  have fhb_1 := fhb_0.below hb1'
  have fhc_1 := fhc_0.below hb1'
  clear hb1' hB_0 fha_0 fhb_0 fhc_0
  go_enter Try.func3, Try.ntmps3
  go_wp2_with fail
  refine (cfit_any _).mono ?_
  rintro e w2 ⟨rfl, hb2⟩
  have hB_2 := hB_1.trans (hb2.mono hB_1.size)
  have fha_2 := fha_1.below hb2
  have fhb_2 := fhb_1.below hb2
  have fhc_2 := fhc_1.below hb2
  have ph_1 := ph_0.below hb2
  clear hb2 hB_1 fha_1 fhb_1 fhc_1 ph_0
  have hphl := ph_1.lt
  go_wp2_with fail
  refine (cshape_any ao n c l _ HNN.out hc (HRR.out.below hB_2)).mono ?_
  rintro e w3 ⟨po, pc, P, rfl, hPl, hPoly, sp1_0, frsp1, hb3⟩
  have hB_3 := hB_2.trans (hb3.mono hB_2.size)
  have fha_3 := fha_2.below hb3
  have fhb_3 := fhb_2.below hb3
  have fhc_3 := fhc_2.below hb3
  have ph_2 := ph_1.below hb3
  clear hb3 hB_2 fha_2 fhb_2 fhc_2 ph_1
  generalize hPn : P.length = n0 at *
  have HPN := Lib.hid hPn; have HPOLY := Lib.hid hPoly; clear hPn hPoly
  obtain ⟨phe0, phe1, phe2, phe3, phe4, phe5, phe6, phe7, phe8, phe9, phe10, phe11, phe12, phe13, phe14, phe15, phe16, phe17⟩ := ph_2.open9
  have SML := Lib.hid (show SmlH (tameQ Xha Dha, tameQ Xhb Dhb, tameQ Xhc Dhc) from ⟨tame_small _ _, tame_small _ _, tame_small _ _⟩)
  go_wp2_with fail
  refine (htame_any Lha Lhb Lhc Xha Xhb Xhc Dha Dhb Dhc _ fha_3 fhb_3 fhc_3).mono ?_
  rintro e w4 ⟨m1a, o1a, n1a, c1a, p1a, k1a, d1a, m1b, o1b, n1b, c1b, p1b, k1b, d1b, m1c, o1c, n1c, c1c, p1c, k1c, d1c, rfl, f1a_0, f1b_0, f1c_0, hb4⟩
  clear phe0 phe1 phe2 phe3 phe4 phe5 phe6 phe7 phe8 phe9 phe10 phe11 phe12 phe13 phe14 phe15 phe16 phe17
  have hB_4 := hB_3.trans (hb4.mono hB_3.size)
  have fha_4 := fha_3.below hb4
  have fhb_4 := fhb_3.below hb4
  have fhc_4 := fhc_3.below hb4
  have ph_3 := ph_2.below hb4
  have sp1_1 := sp1_0.below hb4
  clear hb4 hB_3 fha_3 fhb_3 fhc_3 ph_2 sp1_0
  obtain ⟨phe0, phe1, phe2, phe3, phe4, phe5, phe6, phe7, phe8, phe9, phe10, phe11, phe12, phe13, phe14, phe15, phe16, phe17⟩ := ph_3.open9
  clear fha_4 fhb_4 fhc_4
  clear phe0 phe1 phe2 phe3 phe4 phe5 phe6 phe7 phe8 phe9 phe10 phe11 phe12 phe13 phe14 phe15 phe16 phe17
  obtain ⟨sf1a, sf1b, sf1c, sf1d, sf1e, sf1f, sf1g, sf1h, sf1i, sf1j, sf1k, sf1l, sf1m, sf1n, sf1o, sf1p, sf1q, sf1r⟩ := ph_3.open9
  obtain ⟨sg1a, sg1b, sg1c, sg1d, sg1e, sg1f, sg1g, sg1h, sg1i, sg1j, sg1k, sg1l, sg1m, sg1n, sg1o, sg1p⟩ := Box.put9 ph_3 (.bool m1a) (.slice o1a n1a c1a) (.slice p1a k1a d1a) (.bool m1b) (.slice o1b n1b c1b) (.slice p1b k1b d1b) (.bool m1c) (.slice o1c n1c c1c)
  have hB_5 := below_setAll hB_4 (g := w.heap.size) (by omega) [.bool m1a, .slice o1a n1a c1a, .slice p1a k1a d1a, .bool m1b, .slice o1b n1b c1b, .slice p1b k1b d1b, .bool m1c, .slice o1c n1c c1c, .slice p1c k1c d1c]
  have sp1_2 := sp1_1.setBox ph_3 (noWordB _ rfl) [.bool m1a, .slice o1a n1a c1a, .slice p1a k1a d1a, .bool m1b, .slice o1b n1b c1b, .slice p1b k1b d1b, .bool m1c, .slice o1c n1c c1c, .slice p1c k1c d1c] rfl (fun a ha => by have h1 := frsp1 a ha; omega)
  have f1a_1 := f1a_0.setAll ph_3 (noWordB _ rfl) [.bool m1a, .slice o1a n1a c1a, .slice p1a k1a d1a, .bool m1b, .slice o1b n1b c1b, .slice p1b k1b d1b, .bool m1c, .slice o1c n1c c1c, .slice p1c k1c d1c] rfl
  have f1b_1 := f1b_0.setAll ph_3 (noWordB _ rfl) [.bool m1a, .slice o1a n1a c1a, .slice p1a k1a d1a, .bool m1b, .slice o1b n1b c1b, .slice p1b k1b d1b, .bool m1c, .slice o1c n1c c1c, .slice p1c k1c d1c] rfl
  have f1c_1 := f1c_0.setAll ph_3 (noWordB _ rfl) [.bool m1a, .slice o1a n1a c1a, .slice p1a k1a d1a, .bool m1b, .slice o1b n1b c1b, .slice p1b k1b d1b, .bool m1c, .slice o1c n1c c1c, .slice p1c k1c d1c] rfl
  have ph_4 := ph_3.setAll [.bool m1a, .slice o1a n1a c1a, .slice p1a k1a d1a, .bool m1b, .slice o1b n1b c1b, .slice p1b k1b d1b, .bool m1c, .slice o1c n1c c1c, .slice p1c k1c d1c] rfl
  simp only [setAll, Nat.zero_add, Nat.reduceAdd] at hB_5 ph_4 sp1_2 f1a_1 f1b_1 f1c_1
  obtain ⟨phe0, phe1, phe2, phe3, phe4, phe5, phe6, phe7, phe8, phe9, phe10, phe11, phe12, phe13, phe14, phe15, phe16, phe17⟩ := ph_4.open9
  go_wp2_with fail
  clear sf1a sf1b sf1c sf1d sf1e sf1f sf1g sf1h sf1i sf1j sf1k sf1l sf1m sf1n sf1o sf1p sf1q sf1r sg1a sg1b sg1c sg1d sg1e sg1f sg1g sg1h sg1i sg1j sg1k sg1l sg1m sg1n sg1o sg1p hB_4 sp1_1 f1a_0 f1b_0 f1c_0 ph_3
  generalize (World.setCell (World.setCell (World.setCell (World.setCell (World.setCell (World.setCell (World.setCell (World.setCell (World.setCell w4 ⟨w.heap.size, 0, none⟩ (.bool m1a)) ⟨w.heap.size, 1, none⟩ (.slice o1a n1a c1a)) ⟨w.heap.size, 2, none⟩ (.slice p1a k1a d1a)) ⟨w.heap.size, 3, none⟩ (.bool m1b)) ⟨w.heap.size, 4, none⟩ (.slice o1b n1b c1b)) ⟨w.heap.size, 5, none⟩ (.slice p1b k1b d1b)) ⟨w.heap.size, 6, none⟩ (.bool m1c)) ⟨w.heap.size, 7, none⟩ (.slice o1c n1c c1c)) ⟨w.heap.size, 8, none⟩ (.slice p1c k1c d1c)) = w5 at *
  by_cases hfl1 : tameQ Xha Dha = 0 ∧ tameQ Xhb Dhb = 0
  · go_wp2_with fail
    refine (hflat_any 1 _ _ _ (by omega) f1a_1.q f1b_1.q true ⟨fun _ => rfl, fun _ => hfl1⟩).mono ?_
    rintro e w6 ⟨rfl, hb6⟩
    clear phe0 phe1 phe2 phe3 phe4 phe5 phe6 phe7 phe8 phe9 phe10 phe11 phe12 phe13 phe14 phe15 phe16 phe17
    have hB_6 := hB_5.trans (hb6.mono hB_5.size)
    have ph_5 := ph_4.below hb6
    have sp1_3 := sp1_2.below hb6
    have f1a_2 := f1a_1.below hb6
    have f1b_2 := f1b_1.below hb6
    have f1c_2 := f1c_1.below hb6
    clear hb6 hB_5 ph_4 sp1_2 f1a_1 f1b_1 f1c_1
    go_wp2
    go_ret
    exact ⟨rfl, hB_6⟩
  · have hAB : tameQ Xha Dha ≠ 0 ∨ tameQ Xhb Dhb ≠ 0 := by
      by_cases e : tameQ Xha Dha = 0
      · exact .inr (fun e2 => hfl1 ⟨e, e2⟩)
      · exact .inl e
    have HAB1 := Lib.hid hAB; have HF1 := Lib.hid hfl1; clear hAB hfl1
    go_wp2_with fail
    refine (hflat_any 1 _ _ _ (by omega) f1a_1.q f1b_1.q false ⟨fun h => absurd h HF1.out, fun h => by cases h⟩).mono ?_
    rintro e w6 ⟨rfl, hb6⟩
    clear phe0 phe1 phe2 phe3 phe4 phe5 phe6 phe7 phe8 phe9 phe10 phe11 phe12 phe13 phe14 phe15 phe16 phe17
    have hB_6 := hB_5.trans (hb6.mono hB_5.size)
    have ph_5 := ph_4.below hb6
    have sp1_3 := sp1_2.below hb6
    have f1a_2 := f1a_1.below hb6
    have f1b_2 := f1b_1.below hb6
    have f1c_2 := f1c_1.below hb6
    clear hb6 hB_5 ph_4 sp1_2 f1a_1 f1b_1 f1c_1
    obtain ⟨phe0, phe1, phe2, phe3, phe4, phe5, phe6, phe7, phe8, phe9, phe10, phe11, phe12, phe13, phe14, phe15, phe16, phe17⟩ := ph_5.open9
    go_wp2
    have SMN := Lib.hid (show SmlH (-(tameQ Xha Dha), -(tameQ Xhb Dhb), -(tameQ Xhc Dhc)) from ⟨sml_neg SML.out.1, sml_neg SML.out.2.1, sml_neg SML.out.2.2⟩)
    have HABN := Lib.hid (show -(tameQ Xha Dha) ≠ 0 ∨ -(tameQ Xhb Dhb) ≠ 0 from HAB1.out.elim (fun h => .inl (fun e => h (by grind))) (fun h => .inr (fun e => h (by grind))))
    clear phe0 phe1 phe2 phe3 phe4 phe5 phe6 phe7 phe8 phe9 phe10 phe11 phe12 phe13 phe14 phe15 phe16 phe17
    have hB_7 := hB_6.drew'
    have ph_6 := ph_5.drew
    have sp1_4 := sp1_3.drew
    have f1a_3 := f1a_2.drew
    have f1b_3 := f1b_2.drew
    have f1c_3 := f1c_2.drew
    clear hB_6 ph_5 sp1_3 f1a_2 f1b_2 f1c_2
    go_region_held3 (fun w' => w'.cell? ⟨w.heap.size, 0, none⟩ = some (.bool m1a) ∧ w'.cell? ⟨w.heap.size, 1, none⟩ = some (.slice o1a n1a c1a) ∧ w'.cell? ⟨w.heap.size, 2, none⟩ = some (.slice p1a k1a d1a) ∧ w'.cell? ⟨w.heap.size, 3, none⟩ = some (.bool m1b) ∧ w'.cell? ⟨w.heap.size, 4, none⟩ = some (.slice o1b n1b c1b) ∧ w'.cell? ⟨w.heap.size, 5, none⟩ = some (.slice p1b k1b d1b) ∧ w'.cell? ⟨w.heap.size, 6, none⟩ = some (.bool m1c) ∧ w'.cell? ⟨w.heap.size, 7, none⟩ = some (.slice o1c n1c c1c) ∧ w'.cell? ⟨w.heap.size, 8, none⟩ = some (.slice p1c k1c d1c))
      (first | with_reducible exact ⟨ph_6.c0, ph_6.c1, ph_6.c2, ph_6.c3, ph_6.c4, ph_6.c5, ph_6.c6, ph_6.c7, ph_6.c8⟩ | with_reducible exact ⟨ph_7.c0, ph_7.c1, ph_7.c2, ph_7.c3, ph_7.c4, ph_7.c5, ph_7.c6, ph_7.c7, ph_7.c8⟩ | with_reducible exact ⟨ph_8.c0, ph_8.c1, ph_8.c2, ph_8.c3, ph_8.c4, ph_8.c5, ph_8.c6, ph_8.c7, ph_8.c8⟩ | with_reducible exact ⟨ph_9.c0, ph_9.c1, ph_9.c2, ph_9.c3, ph_9.c4, ph_9.c5, ph_9.c6, ph_9.c7, ph_9.c8⟩ | fail)
      (first
        | (go_at_call 12; (with_reducible refine (clipPoly po n0 pc P _ _ _ _ HPN.out (by omega) HPOLY.out SML.out HAB1.out sp1_4 f1a_3.q f1b_3.q f1c_3.q).mono ?_); rintro e w7 ⟨ao2, ac2, rfl, sp2_0, frsp2, hb7⟩; have hB_8 := hB_7.trans (hb7.mono hB_7.size); have ph_7 := ph_6.below hb7; have sp1_5 := sp1_4.below hb7; have f1a_4 := f1a_3.below hb7; have f1b_4 := f1b_3.below hb7; have f1c_4 := f1c_3.below hb7; clear hb7 hB_7 ph_6 sp1_4 f1a_3 f1b_3 f1c_3)
        | (go_at_call 13; (with_reducible refine (hturned_any _ _ _ _ f1a_4.q f1b_4.q f1c_4.q).mono ?_); rintro e w8 ⟨m3a, o3a, n3a, c3a, p3a, k3a, d3a, m3b, o3b, n3b, c3b, p3b, k3b, d3b, m3c, o3c, n3c, c3c, p3c, k3c, d3c, rfl, f3a_0, f3b_0, f3c_0, hb8⟩; have hB_9 := hB_8.trans (hb8.mono hB_8.size); have ph_8 := ph_7.below hb8; have sp1_6 := sp1_5.below hb8; have f1a_5 := f1a_4.below hb8; have f1b_5 := f1b_4.below hb8; have f1c_5 := f1c_4.below hb8; have sp2_1 := sp2_0.below hb8; clear hb8 hB_8 ph_7 sp1_5 f1a_4 f1b_4 f1c_4 sp2_0)
        | (go_at_call 12; (with_reducible refine (clipPoly po n0 pc P _ _ _ _ HPN.out (by omega) HPOLY.out SMN.out HABN.out sp1_6 f3a_0.q f3b_0.q f3c_0.q).mono ?_); rintro e w9 ⟨ao4, ac4, rfl, sp4_0, frsp4, hb9⟩; have hB_10 := hB_9.trans (hb9.mono hB_9.size); have ph_9 := ph_8.below hb9; have sp1_7 := sp1_6.below hb9; have f1a_6 := f1a_5.below hb9; have f1b_6 := f1b_5.below hb9; have f1c_6 := f1c_5.below hb9; have sp2_2 := sp2_1.below hb9; have f3a_1 := f3a_0.below hb9; have f3b_1 := f3b_0.below hb9; have f3c_1 := f3c_0.below hb9; clear hb9 hB_9 ph_8 sp1_6 f1a_5 f1b_5 f1c_5 sp2_1 f3a_0 f3b_0 f3c_0))
    have hcl2 := clip_len (l := P) (HAB1.out) (C := tameQ Xhc Dhc) HPOLY.out.1
    rw [HPN.out] at hcl2
    generalize hLn : (clipQ (tameQ Xha Dha) (tameQ Xhb Dhb) (tameQ Xhc Dhc) P).length = n2 at *
    have HN2 := Lib.hid hLn; clear hLn
    have hcl4 := clip_len (l := P) (HABN.out) (C := -(tameQ Xhc Dhc)) HPOLY.out.1
    rw [HPN.out] at hcl4
    generalize hLn : (clipQ (-(tameQ Xha Dha)) (-(tameQ Xhb Dhb)) (-(tameQ Xhc Dhc)) P).length = n4 at *
    have HN4 := Lib.hid hLn; clear hLn
    clear f3a_1
    clear f3b_1
    clear f3c_1
    go_wp2_with fail
    refine (cConvex_yes po n0 pc _ 7 _ HPN.out (by omega) (by omega) sp1_7 HPOLY.out.1).mono ?_
    rintro e w10 ⟨rfl, hb10⟩
    have hB_11 := hB_10.trans (hb10.mono hB_10.size)
    have ph_10 := ph_9.below hb10
    have sp1_8 := sp1_7.below hb10
    have f1a_7 := f1a_6.below hb10
    have f1b_7 := f1b_6.below hb10
    have f1c_7 := f1c_6.below hb10
    have sp2_3 := sp2_2.below hb10
    have sp4_1 := sp4_0.below hb10
    clear hb10 hB_10 ph_9 sp1_7 f1a_6 f1b_6 f1c_6 sp2_2 sp4_0
    go_wp2_with fail
    refine (cConvex_yes ao2 n2 ac2 _ 7 _ HN2.out (by omega) (by omega) sp2_3 (clip_conv0 HPOLY.out.1)).mono ?_
    rintro e w11 ⟨rfl, hb11⟩
    have hB_12 := hB_11.trans (hb11.mono hB_11.size)
    have ph_11 := ph_10.below hb11
    have sp1_9 := sp1_8.below hb11
    have f1a_8 := f1a_7.below hb11
    have f1b_8 := f1b_7.below hb11
    have f1c_8 := f1c_7.below hb11
    have sp2_4 := sp2_3.below hb11
    have sp4_2 := sp4_1.below hb11
    clear hb11 hB_11 ph_10 sp1_8 f1a_7 f1b_7 f1c_7 sp2_3 sp4_1
    go_wp2_with fail
    refine (cConvex_yes ao4 n4 ac4 _ 7 _ HN4.out (by omega) (by omega) sp4_2 (clip_conv0 HPOLY.out.1)).mono ?_
    rintro e w12 ⟨rfl, hb12⟩
    have hB_13 := hB_12.trans (hb12.mono hB_12.size)
    have ph_12 := ph_11.below hb12
    have sp1_10 := sp1_9.below hb12
    have f1a_9 := f1a_8.below hb12
    have f1b_9 := f1b_8.below hb12
    have f1c_9 := f1c_8.below hb12
    have sp2_5 := sp2_4.below hb12
    have sp4_3 := sp4_2.below hb12
    clear hb12 hB_12 ph_11 sp1_9 f1a_8 f1b_8 f1c_8 sp2_4 sp4_2
    go_wp2_with fail
    refine (sArea2_any ao2 n2 ac2 _ 7 _ HN2.out (by omega) (by omega) sp2_5.spots).mono ?_
    rintro e w13 ⟨m5, o5, n5, c5, p5, k5, d5, rfl, f5_0, hb13⟩
    have hB_14 := hB_13.trans (hb13.mono hB_13.size)
    have ph_13 := ph_12.below hb13
    have sp1_11 := sp1_10.below hb13
    have f1a_10 := f1a_9.below hb13
    have f1b_10 := f1b_9.below hb13
    have f1c_10 := f1c_9.below hb13
    have sp2_6 := sp2_5.below hb13
    have sp4_4 := sp4_3.below hb13
    clear hb13 hB_13 ph_12 sp1_10 f1a_9 f1b_9 f1c_9 sp2_5 sp4_3
    go_wp2_with fail
    refine (sArea2_any ao4 n4 ac4 _ 7 _ HN4.out (by omega) (by omega) sp4_4.spots).mono ?_
    rintro e w14 ⟨m6, o6, n6, c6, p6, k6, d6, rfl, f6_0, hb14⟩
    have hB_15 := hB_14.trans (hb14.mono hB_14.size)
    have ph_14 := ph_13.below hb14
    have sp1_12 := sp1_11.below hb14
    have f1a_11 := f1a_10.below hb14
    have f1b_11 := f1b_10.below hb14
    have f1c_11 := f1c_10.below hb14
    have sp2_7 := sp2_6.below hb14
    have sp4_5 := sp4_4.below hb14
    have f5_1 := f5_0.below hb14
    clear hb14 hB_14 ph_13 sp1_11 f1a_10 f1b_10 f1c_10 sp2_6 sp4_4 f5_0
    go_wp2_with fail
    refine (qAdd _ _ (1 + n2 * ((7 + 7 + 2 + (7 + 7 + 2) + 2) + 2)) (1 + n4 * ((7 + 7 + 2 + (7 + 7 + 2) + 2) + 2)) _ _ _ (by omega) (by omega) f5_1.q f6_0.q).mono ?_
    rintro e w15 ⟨m7, o7, n7, c7, p7, k7, d7, rfl, f7_0, hb15⟩
    have hB_16 := hB_15.trans (hb15.mono hB_15.size)
    have ph_15 := ph_14.below hb15
    have sp1_13 := sp1_12.below hb15
    have f1a_12 := f1a_11.below hb15
    have f1b_12 := f1b_11.below hb15
    have f1c_12 := f1c_11.below hb15
    have sp2_8 := sp2_7.below hb15
    have sp4_6 := sp4_5.below hb15
    have f5_2 := f5_1.below hb15
    have f6_1 := f6_0.below hb15
    clear hb15 hB_15 ph_14 sp1_12 f1a_11 f1b_11 f1c_11 sp2_7 sp4_5 f5_1 f6_0
    go_wp2_with fail
    refine (sArea2_any po n0 pc _ 7 _ HPN.out (by omega) (by omega) sp1_13.spots).mono ?_
    rintro e w16 ⟨m8, o8, n8, c8, p8, k8, d8, rfl, f8_0, hb16⟩
    have hB_17 := hB_16.trans (hb16.mono hB_16.size)
    have ph_16 := ph_15.below hb16
    have sp1_14 := sp1_13.below hb16
    have f1a_13 := f1a_12.below hb16
    have f1b_13 := f1b_12.below hb16
    have f1c_13 := f1c_12.below hb16
    have sp2_9 := sp2_8.below hb16
    have sp4_7 := sp4_6.below hb16
    have f5_3 := f5_2.below hb16
    have f6_2 := f6_1.below hb16
    have f7_1 := f7_0.below hb16
    clear hb16 hB_16 ph_15 sp1_13 f1a_12 f1b_12 f1c_12 sp2_8 sp4_6 f5_2 f6_1 f7_0
    go_wp2_with fail
    refine (qSame_yes _ _ (1 + n2 * ((7 + 7 + 2 + (7 + 7 + 2) + 2) + 2) + (1 + n4 * ((7 + 7 + 2 + (7 + 7 + 2) + 2) + 2)) + 2) (1 + n0 * ((7 + 7 + 2 + (7 + 7 + 2) + 2) + 2)) _ _ _ (by omega) (by omega) f7_1.q f8_0.q (clip_halves HAB1.out P)).mono ?_
    rintro e w17 ⟨rfl, hb17⟩
    have hB_18 := hB_17.trans (hb17.mono hB_17.size)
    have ph_17 := ph_16.below hb17
    have sp1_15 := sp1_14.below hb17
    have f1a_14 := f1a_13.below hb17
    have f1b_14 := f1b_13.below hb17
    have f1c_14 := f1c_13.below hb17
    have sp2_10 := sp2_9.below hb17
    have sp4_8 := sp4_7.below hb17
    have f5_4 := f5_3.below hb17
    have f6_3 := f6_2.below hb17
    have f7_2 := f7_1.below hb17
    have f8_1 := f8_0.below hb17
    clear hb17 hB_17 ph_16 sp1_14 f1a_13 f1b_13 f1c_13 sp2_9 sp4_7 f5_3 f6_2 f7_1 f8_0
    clear f5_4 f6_3 f7_2 f8_1 sp4_8
    go_wp2
    have F1a := Lib.hid f1a_14
    have F1b := Lib.hid f1b_14
    have F1c := Lib.hid f1c_14
    have SPA := Lib.hid sp2_10; have SPP := Lib.hid sp1_15; have PHH := Lib.hid ph_17
    clear f1a_14 f1b_14 f1c_14 sp2_10 sp1_15 ph_17
    have hW_0 := Below.refl w17.heap.size w17
    have hws := hB_18.size
    go_loopw [51] (fun iv wr => ∃ k : Nat, k ≤ n2 ∧ iv = .int .i64 k ∧ Below w.heap.size w wr ∧ Below w17.heap.size w17 wr) (fun iv _ => n2 - (intOf iv).toNat)
    case atStart => exact ⟨0, Nat.zero_le _, rfl, hB_18, hW_0⟩
    case round =>
      obtain ⟨k, hk, rfl, hB_0, hW_0⟩ := hrel
      by_cases hlt : k < n2
      · obtain ⟨⟨x, y⟩, hlk⟩ : ∃ p, (clipQ (tameQ Xha Dha) (tameQ Xhb Dhb) (tameQ Xhc Dhc) P)[k]? = some p := ⟨_, List.getElem?_eq_getElem (by rw [HN2.out]; omega)⟩
        have hin := corner_clip HPOLY.out.1 hlk
        obtain ⟨b, o, m9x, o9x, n9x, c9x, p9x, k9x, d9x, m9y, o9y, n9y, c9y, p9y, k9y, d9y, hao, dd, r9x, r9y⟩ := (SPA.out.below hW_0) k x y hlk
        subst hao
        obtain ⟨ee0, ee1, ee2, ee3, ee4, ee5⟩ := dd
        obtain ⟨sc, hsc⟩ : ∃ s, (fvQ (tameQ Xha Dha) (tameQ Xhb Dhb) (tameQ Xhc Dhc) (x, y)).num.sign = s := ⟨_, rfl⟩
        have hle := (sgn_le0 (fvQ (tameQ Xha Dha) (tameQ Xhb Dhb) (tameQ Xhc Dhc) (x, y))).2 hin.2
        rw [hsc] at hle
        have hle' : ¬ 0 < sc := by omega
        have HSC := Lib.hid hsc; have HIN := Lib.hid hin.1; clear hsc hin hlk
        have f9x_0 := r9x.q; have f9y_0 := r9y.q; clear r9x r9y
        have ph_0 := PHH.out.below hW_0
        have sp1_0 := SPP.out.below hW_0
        have f1a_0 := F1a.out.below hW_0
        have f1b_0 := F1b.out.below hW_0
        have f1c_0 := F1c.out.below hW_0
        have hl1ph := ph_0.lt
        have hl1B := hB_0.size
        obtain ⟨w18, hw18, pt_0, hb18, hs18⟩ := new_box wr (wr.heap.size) rfl [.bool m9x, .slice o9x n9x c9x, .slice p9x k9x d9x, .bool m9y, .slice o9y n9y c9y, .slice p9y k9y d9y] 42
        have hb18' : Below wr.heap.size wr w18 := hb18.mono (by omega)
        clear hb18
        have hB_1 := hB_0.trans (hb18'.mono hB_0.size)
        have hW_1 := hW_0.trans (hb18'.mono hW_0.size)
        have f1a_1 := f1a_0.below hb18'
        have f1b_1 := f1b_0.below hb18'
        have f1c_1 := f1c_0.below hb18'
        have f9x_1 := f9x_0.below hb18'
        have f9y_1 := f9y_0.below hb18'
        have sp1_1 := sp1_0.below hb18'
        have ph_1 := ph_0.below hb18'
        clear hb18' hB_0 hW_0 f1a_0 f1b_0 f1c_0 f9x_0 f9y_0 sp1_0 ph_0
        obtain ⟨phe0, phe1, phe2, phe3, phe4, phe5, phe6, phe7, phe8, phe9, phe10, phe11, phe12, phe13, phe14, phe15, phe16, phe17⟩ := ph_1.open9
        obtain ⟨pte0, pte1, pte2, pte3, pte4, pte5, pte6, pte7, pte8, pte9, pte10, pte11⟩ := pt_0.open6
        go_wp2_with fail
        refine (cValue_any 1 _ _ _ 7 x y _ (by omega) (by omega) f1a_1.q f1b_1.q f1c_1.q f9x_1 f9y_1).mono ?_
        rintro e w19 ⟨m10, o10, n10, c10, p10, k10, d10, rfl, f10_0, hb19⟩
        clear phe0 phe1 phe2 phe3 phe4 phe5 phe6 phe7 phe8 phe9 phe10 phe11 phe12 phe13 phe14 phe15 phe16 phe17 pte0 pte1 pte2 pte3 pte4 pte5 pte6 pte7 pte8 pte9 pte10 pte11
        have hB_2 := hB_1.trans (hb19.mono hB_1.size)
        have hW_2 := hW_1.trans (hb19.mono hW_1.size)
        have f1a_2 := f1a_1.below hb19
        have f1b_2 := f1b_1.below hb19
        have f1c_2 := f1c_1.below hb19
        have f9x_2 := f9x_1.below hb19
        have f9y_2 := f9y_1.below hb19
        have sp1_2 := sp1_1.below hb19
        have ph_2 := ph_1.below hb19
        have pt_1 := pt_0.below hb19
        clear hb19 hB_1 hW_1 f1a_1 f1b_1 f1c_1 f9x_1 f9y_1 sp1_1 ph_1 pt_0
        obtain ⟨phe0, phe1, phe2, phe3, phe4, phe5, phe6, phe7, phe8, phe9, phe10, phe11, phe12, phe13, phe14, phe15, phe16, phe17⟩ := ph_2.open9
        obtain ⟨pte0, pte1, pte2, pte3, pte4, pte5, pte6, pte7, pte8, pte9, pte10, pte11⟩ := pt_1.open6
        clear ee0 ee1 ee2 ee3 ee4 ee5
        go_wp2_with fail
        refine (qSign _ _ _ _ (by omega) f10_0.q sc HSC.out).mono ?_
        rintro e w20 ⟨rfl, hb20⟩
        clear phe0 phe1 phe2 phe3 phe4 phe5 phe6 phe7 phe8 phe9 phe10 phe11 phe12 phe13 phe14 phe15 phe16 phe17 pte0 pte1 pte2 pte3 pte4 pte5 pte6 pte7 pte8 pte9 pte10 pte11
        have hB_3 := hB_2.trans (hb20.mono hB_2.size)
        have hW_3 := hW_2.trans (hb20.mono hW_2.size)
        have f1a_3 := f1a_2.below hb20
        have f1b_3 := f1b_2.below hb20
        have f1c_3 := f1c_2.below hb20
        have f9x_3 := f9x_2.below hb20
        have f9y_3 := f9y_2.below hb20
        have sp1_3 := sp1_2.below hb20
        have ph_3 := ph_2.below hb20
        have pt_2 := pt_1.below hb20
        have f10_1 := f10_0.below hb20
        clear hb20 hB_2 hW_2 f1a_2 f1b_2 f1c_2 f9x_2 f9y_2 sp1_2 ph_2 pt_1 f10_0
        obtain ⟨pte0, pte1, pte2, pte3, pte4, pte5, pte6, pte7, pte8, pte9, pte10, pte11⟩ := pt_2.open6
        go_wp2_with fail
        refine (cWithin_any po n0 pc P 7 7 x y true _ HPN.out (by omega) (by omega) (by omega) sp1_3 f9x_3 f9y_3 ⟨fun _ => rfl, fun _ => HIN.out⟩).mono ?_
        rintro e w21 ⟨rfl, hb21⟩
        clear pte0 pte1 pte2 pte3 pte4 pte5 pte6 pte7 pte8 pte9 pte10 pte11
        have hB_4 := hB_3.trans (hb21.mono hB_3.size)
        have hW_4 := hW_3.trans (hb21.mono hW_3.size)
        have f1a_4 := f1a_3.below hb21
        have f1b_4 := f1b_3.below hb21
        have f1c_4 := f1c_3.below hb21
        have f9x_4 := f9x_3.below hb21
        have f9y_4 := f9y_3.below hb21
        have sp1_4 := sp1_3.below hb21
        have ph_4 := ph_3.below hb21
        have pt_3 := pt_2.below hb21
        have f10_2 := f10_1.below hb21
        clear hb21 hB_3 hW_3 f1a_3 f1b_3 f1c_3 f9x_3 f9y_3 sp1_3 ph_3 pt_2 f10_1
        go_wp2
        exact ⟨⟨k + 1, by omega, by go_num, hB_4, hW_4⟩, by simp [intOf]; omega⟩
      · obtain rfl : k = n2 := by omega
        go_wp2
        go_ret
        exact ⟨rfl, hB_0⟩
end Go.Proofs.Ytdfabocecpcmcaa
/- The statement ClipPoints, walked. -/
namespace Go.Proofs.Ytdfabocecpcmcaa
open Go.RowKit Go.MagM
theorem none_neg {A B C : Rat} {P : List (Rat × Rat)} (hP : Conv0 P) (h : clipQ A B C P = []) {k : Nat} {x y : Rat} (hk : P[k]? = some (x, y)) : ¬ fvQ A B C (x, y) < 0 := by
  intro hf
  have hl := (List.getElem?_eq_some_iff.1 hk).1
  have hc : Conv P := by
    rcases hP with rfl | h
    · simp at hl
    · exact h
  rw [← at_cor0 hk] at hf
  rw [clipQ_pos ⟨k, hl, hf⟩] at h
  have := cut_three (A := A) (B := B) (C := C) hc.1 hl hf
  rw [h] at this; simp at this
theorem clip_in0 {A B C : Rat} {P : List (Rat × Rat)} (hP : Conv0 P) (h : clipQ A B C P ≠ []) (s : Rat × Rat) : InL (clipQ A B C P) s ↔ InL P s ∧ fvQ A B C s ≤ 0 := by
  rcases hP with rfl | hP
  · exact absurd clip_nil h
  · exact clip_points hP h s
set_option maxRecDepth 100000 in
set_option maxHeartbeats 32000000 in
theorem ClipPoints_walk {ao : Option Addr} {n c : Nat} {l : List RawH} {ham : Bool} {hao : Option Addr} {han hac : Nat} {hap : Option Addr} {hak had : Nat} {hbm : Bool} {hbo : Option Addr} {hbn hbc : Nat} {hbp : Option Addr} {hbk hbd : Nat} {hcm : Bool} {hco : Option Addr} {hcn hcc : Nat} {hcp : Option Addr} {hck hcd : Nat} {Lha : Nat} {Xha : Int} {Dha : Nat} {Lhb : Nat} {Xhb : Int} {Dhb : Nat} {Lhc : Nat} {Xhc : Int} {Dhc : Nat} {sxm : Bool} {sxo : Option Addr} {sxn sxc : Nat} {sxp : Option Addr} {sxk sxd : Nat} {sym : Bool} {syo : Option Addr} {syn syc : Nat} {syp : Option Addr} {syk syd : Nat} {Lsx : Nat} {Xsx : Int} {Dsx : Nat} {Lsy : Nat} {Xsy : Int} {Dsy : Nat} (w : World) (hn : l.length = n) (hc : n ≤ c) (hr : HRaws w ao l) (fha_0 : FD w (.agg #[.bool ham, .slice hao han hac, .slice hap hak had]) Lha Xha Dha) (fhb_0 : FD w (.agg #[.bool hbm, .slice hbo hbn hbc, .slice hbp hbk hbd]) Lhb Xhb Dhb) (fhc_0 : FD w (.agg #[.bool hcm, .slice hco hcn hcc, .slice hcp hck hcd]) Lhc Xhc Dhc) (fsx_0 : FD w (.agg #[.bool sxm, .slice sxo sxn sxc, .slice sxp sxk sxd]) Lsx Xsx Dsx) (fsy_0 : FD w (.agg #[.bool sym, .slice syo syn syc, .slice syp syk syd]) Lsy Xsy Dsy) :
    Calls Try.prog 4 #[.slice ao n c, .agg #[.bool ham, .slice hao han hac, .slice hap hak had, .bool hbm, .slice hbo hbn hbc, .slice hbp hbk hbd, .bool hcm, .slice hco hcn hcc, .slice hcp hck hcd], .agg #[.bool sxm, .slice sxo sxn sxc, .slice sxp sxk sxd, .bool sym, .slice syo syn syc, .slice syp syk syd]] w fun e w' => e = .returned (.bool true) ∧ Below w.heap.size w w' := by
  have hB_0 := Below.refl w.heap.size w
  have HRR := Lib.hid hr; have HNN := Lib.hid hn; clear hr hn
  obtain ⟨w1, hw1, ph_0, hb1, hs1⟩ := new_box w (w.heap.size) rfl [.bool ham, .slice hao han hac, .slice hap hak had, .bool hbm, .slice hbo hbn hbc, .slice hbp hbk hbd, .bool hcm, .slice hco hcn hcc, .slice hcp hck hcd] 30
  have hb1' : Below w.heap.size w w1 := hb1.mono (by omega)
  clear hb1
  have hB_1 := hB_0.trans (hb1'.mono hB_0.size)
  have fha_1 := fha_0.below hb1'
  have fhb_1 := fhb_0.below hb1'
  have fhc_1 := fhc_0.below hb1'
  have fsx_1 := fsx_0.below hb1'
  have fsy_1 := fsy_0.below hb1'
  clear hb1' hB_0 fha_0 fhb_0 fhc_0 fsx_0 fsy_0
  obtain ⟨w2, hw2, ps_0, hb2, hs2⟩ := new_box w1 (w.heap.size + 1) hs1 [.bool sxm, .slice sxo sxn sxc, .slice sxp sxk sxd, .bool sym, .slice syo syn syc, .slice syp syk syd] 42
  have hb2' : Below w1.heap.size w1 w2 := hb2.mono (by omega)
  clear hb2
  have hB_2 := hB_1.trans (hb2'.mono hB_1.size)
  have fha_2 := fha_1.below hb2'
  have fhb_2 := fhb_1.below hb2'
  have fhc_2 := fhc_1.below hb2'
  have fsx_2 := fsx_1.below hb2'
  have fsy_2 := fsy_1.below hb2'
  have ph_1 := ph_0.below hb2'
  clear hb2' hB_1 fha_1 fhb_1 fhc_1 fsx_1 fsy_1 ph_0
  go_enter Try.func4, Try.ntmps4
  go_wp2_with fail
  refine (cfit_any _).mono ?_
  rintro e w3 ⟨rfl, hb3⟩
  have hB_3 := hB_2.trans (hb3.mono hB_2.size)
  have fha_3 := fha_2.below hb3
  have fhb_3 := fhb_2.below hb3
  have fhc_3 := fhc_2.below hb3
  have fsx_3 := fsx_2.below hb3
  have fsy_3 := fsy_2.below hb3
  have ph_2 := ph_1.below hb3
  have ps_1 := ps_0.below hb3
  clear hb3 hB_2 fha_2 fhb_2 fhc_2 fsx_2 fsy_2 ph_1 ps_0
  have hphl := ph_2.lt
  have hpsl := ps_1.lt
  go_wp2_with fail
  refine (cshape_any ao n c l _ HNN.out hc (HRR.out.below hB_3)).mono ?_
  rintro e w4 ⟨po, pc, P, rfl, hPl, hPoly, sp1_0, frsp1, hb4⟩
  have hB_4 := hB_3.trans (hb4.mono hB_3.size)
  have fha_4 := fha_3.below hb4
  have fhb_4 := fhb_3.below hb4
  have fhc_4 := fhc_3.below hb4
  have fsx_4 := fsx_3.below hb4
  have fsy_4 := fsy_3.below hb4
  have ph_3 := ph_2.below hb4
  have ps_2 := ps_1.below hb4
  clear hb4 hB_3 fha_3 fhb_3 fhc_3 fsx_3 fsy_3 ph_2 ps_1
  generalize hPn : P.length = n0 at *
  have HPN := Lib.hid hPn; have HPOLY := Lib.hid hPoly; clear hPn hPoly
  have SML := Lib.hid (show SmlH (tameQ Xha Dha, tameQ Xhb Dhb, tameQ Xhc Dhc) from ⟨tame_small _ _, tame_small _ _, tame_small _ _⟩)
  go_wp2
  have hWi_0 := Below.refl w4.heap.size w4
  have hsi : w.heap.size ≤ w4.heap.size := hB_4.size
  have hliph := ph_3.lt
  have hlips := ps_2.lt
  have hB_5 := hB_4.drew'
  have fha_5 := fha_4.drew
  have fhb_5 := fhb_4.drew
  have fhc_5 := fhc_4.drew
  have fsx_5 := fsx_4.drew
  have fsy_5 := fsy_4.drew
  have ph_4 := ph_3.drew
  have ps_3 := ps_2.drew
  have sp1_1 := sp1_0.drew
  have hWi_1 := hWi_0.drew'
  clear hB_4 fha_4 fhb_4 fhc_4 fsx_4 fsy_4 ph_3 ps_2 sp1_0 hWi_0
  obtain ⟨FFi, hFFi⟩ : ∃ F : World → Prop, ∀ w', F w' ↔ (Below w.heap.size w w' ∧ FD w' (.agg #[.bool ham, .slice hao han hac, .slice hap hak had]) Lha Xha Dha ∧ FD w' (.agg #[.bool hbm, .slice hbo hbn hbc, .slice hbp hbk hbd]) Lhb Xhb Dhb ∧ FD w' (.agg #[.bool hcm, .slice hco hcn hcc, .slice hcp hck hcd]) Lhc Xhc Dhc ∧ FD w' (.agg #[.bool sxm, .slice sxo sxn sxc, .slice sxp sxk sxd]) Lsx Xsx Dsx ∧ FD w' (.agg #[.bool sym, .slice syo syn syc, .slice syp syk syd]) Lsy Xsy Dsy ∧ Box w' (w.heap.size) [.bool ham, .slice hao han hac, .slice hap hak had, .bool hbm, .slice hbo hbn hbc, .slice hbp hbk hbd, .bool hcm, .slice hco hcn hcc, .slice hcp hck hcd] ∧ Box w' (w.heap.size + 1) [.bool sxm, .slice sxo sxn sxc, .slice sxp sxk sxd, .bool sym, .slice syo syn syc, .slice syp syk syd] ∧ SpotsR w' po 7 P ∧ Below w4.heap.size w4 w') := ⟨_, fun _ => Iff.rfl⟩
  have cFi : ∀ {w' w'' : World}, FFi w' → Below w'.heap.size w' w'' → FFi w'' := by
    intro w' w'' h hb
    obtain ⟨y0, y1, y2, y3, y4, y5, y6, y7, y8, y9⟩ := (hFFi _).1 h
    exact (hFFi _).2 ⟨y0.trans (hb.mono y0.size), y1.below hb, y2.below hb, y3.below hb, y4.below hb, y5.below hb, y6.below hb, y7.below hb, y8.below hb, y9.trans (hb.mono y9.size)⟩
  have mFi : ∀ {w' : World}, FFi w' → w4.heap.size ≤ w'.heap.size := by
    intro w' h
    obtain ⟨y0, y1, y2, y3, y4, y5, y6, y7, y8, y9⟩ := (hFFi _).1 h
    exact y9.size
  have sFi : ∀ {w' : World}, FFi w' → (True) := by
    intro w' h
    obtain ⟨y0, y1, y2, y3, y4, y5, y6, y7, y8, y9⟩ := (hFFi _).1 h
    exact trivial
  have zF : FFi w4.drew := (hFFi _).2 ⟨hB_5, fha_5, fhb_5, fhc_5, fsx_5, fsy_5, ph_4, ps_3, sp1_1, hWi_1⟩
  clear hB_5 fha_5 fhb_5 fhc_5 fsx_5 fsy_5 ph_4 ps_3 sp1_1 hWi_1
  refine wp_region_noPanic ?_
  refine wp_region_held_drew (S := fun w' => True) (by kernel_rfl) (sFi zF) (fun hHeld => ?_)
  refine reg_grab (fun WWi ai hWW hAA => ?_)
  rw [hWW]
  have HAi := Lib.hid hAA; clear hWW hAA hHeld
  obtain ⟨IVi, hIVi⟩ : ∃ IV : Array Bool → Act → World → Prop, ∀ l a w', IV l a w' ↔ ∀ CC : Prop, (∀ (lb0 lb1 lb2 lb3 : Bool) (lv0 lv1 lv2 lv3 : Value) (m1a : Bool) (o1a : Option Addr) (n1a : Nat) (c1a : Nat) (p1a : Option Addr) (k1a : Nat) (d1a : Nat) (m1b : Bool) (o1b : Option Addr) (n1b : Nat) (c1b : Nat) (p1b : Option Addr) (k1b : Nat) (d1b : Nat) (m1c : Bool) (o1c : Option Addr) (n1c : Nat) (c1c : Nat) (p1c : Option Addr) (k1c : Nat) (d1c : Nat) (m2x : Bool) (o2x : Option Addr) (n2x : Nat) (c2x : Nat) (p2x : Option Addr) (k2x : Nat) (d2x : Nat) (m2y : Bool) (o2y : Option Addr) (n2y : Nat) (c2y : Nat) (p2y : Option Addr) (k2y : Nat) (d2y : Nat), (l = #[lb0, lb1, lb2, lb3, false, false]) → (a = ((((ai.put (some 16) lv0).put (some 17) lv1).put (some 18) lv2).put (some 19) lv3)) → (FFi w') → ((lb0 = true → lv0 = .agg #[.bool ham, .slice hao han hac, .slice hap hak had, .bool hbm, .slice hbo hbn hbc, .slice hbp hbk hbd, .bool hcm, .slice hco hcn hcc, .slice hcp hck hcd])) → ((lb1 = true → lv1 = .agg #[.bool m1a, .slice o1a n1a c1a, .slice p1a k1a d1a, .bool m1b, .slice o1b n1b c1b, .slice p1b k1b d1b, .bool m1c, .slice o1c n1c c1c, .slice p1c k1c d1c] ∧ RF w' (.agg #[.bool m1a, .slice o1a n1a c1a, .slice p1a k1a d1a]) (1) (tameQ Xha Dha) ∧ RF w' (.agg #[.bool m1b, .slice o1b n1b c1b, .slice p1b k1b d1b]) (1) (tameQ Xhb Dhb) ∧ RF w' (.agg #[.bool m1c, .slice o1c n1c c1c, .slice p1c k1c d1c]) (1) (tameQ Xhc Dhc))) → ((lb2 = true → lv2 = .agg #[.bool sxm, .slice sxo sxn sxc, .slice sxp sxk sxd, .bool sym, .slice syo syn syc, .slice syp syk syd])) → ((lb3 = true → lv3 = .agg #[.bool m2x, .slice o2x n2x c2x, .slice p2x k2x d2x, .bool m2y, .slice o2y n2y c2y, .slice p2y k2y d2y] ∧ RF w' (.agg #[.bool m2x, .slice o2x n2x c2x, .slice p2x k2x d2x]) (1) (tameQ Xsx Dsx) ∧ RF w' (.agg #[.bool m2y, .slice o2y n2y c2y, .slice p2y k2y d2y]) (1) (tameQ Xsy Dsy))) → ((lb1 = true → lb0 = true)) → ((lb3 = true → lb2 = true)) → ((lb3 = true → lb1 = true)) → CC) → CC := ⟨_, fun _ _ _ => Iff.rfl⟩
  refine wpAnyH_until IVi ?_ _ _ _ _ ((hIVi _ _ _).2 (fun CC kk => kk false false false false (ai.tmps.getD 16 undef) (ai.tmps.getD 17 undef) (ai.tmps.getD 18 undef) (ai.tmps.getD 19 undef) false none 0 0 none 0 0 false none 0 0 none 0 0 false none 0 0 none 0 0 false none 0 0 none 0 0 false none 0 0 none 0 0 rfl (by simp only [put_same]) zF (fun h => by cases h) (fun h => by cases h) (fun h => by cases h) (fun h => by cases h) (fun h => by cases h) (fun h => by cases h) (fun h => by cases h))) (by kernel_rfl)
  clear zF
  intro ll aa w5 hI
  refine (hIVi _ _ _).1 hI _ ?_
  clear hI
  intro lb0 lb1 lb2 lb3 lv0 lv1 lv2 lv3 m1a o1a n1a c1a p1a k1a d1a m1b o1b n1b c1b p1b k1b d1b m1c o1c n1c c1c p1c k1c d1c m2x o2x n2x c2x p2x k2x d2x m2y o2y n2y c2y p2y k2y d2y hll haa zF F0 F1 F2 F3 dp1_0 dp3_2 dp3_1
  subst hll haa
  by_cases hL : lb0 = true ∧ lb1 = true ∧ lb2 = true ∧ lb3 = true
  · left
    obtain ⟨rfl, rfl, rfl, rfl⟩ := hL
    obtain rfl := F0 rfl
    clear F0
    obtain ⟨rfl, f1a_0, f1b_0, f1c_0⟩ := F1 rfl
    clear F1
    obtain rfl := F2 rfl
    clear F2
    obtain ⟨rfl, f2x_0, f2y_0⟩ := F3 rfl
    clear F3
    clear dp1_0 dp3_2 dp3_1
    show wpAnyH _ _ _ _ _ 2 _ _ _
    rw [HAi.out]
    try simp only [Act.put]
    try simp only [List.setIfInBounds_toArray, List.set_cons_zero, List.set_cons_succ]
    obtain ⟨hB_0, fha_0, fhb_0, fhc_0, fsx_0, fsy_0, ph_0, ps_0, sp1_0, hWi_0⟩ := (hFFi _).1 zF
    clear zF
    clear hWi_0
    refine reg_call 4 ?_ (by kernel_rfl) ?_ (fun K hK => ?_)
    rotate_left 1
    · simp only [List.getElem?_toArray, List.getElem?_cons_succ, List.getElem?_cons_zero]; exact rfl
    obtain ⟨w6, hslw6⟩ : ∃ q, Go.MagM.setAll w5 (w.heap.size) 0 [.bool m1a, .slice o1a n1a c1a, .slice p1a k1a d1a, .bool m1b, .slice o1b n1b c1b, .slice p1b k1b d1b, .bool m1c, .slice o1c n1c c1c, .slice p1c k1c d1c] = q := ⟨_, rfl⟩
    have hB_1 := below_setFrom (g := w.heap.size) (by omega) [.bool m1a, .slice o1a n1a c1a, .slice p1a k1a d1a, .bool m1b, .slice o1b n1b c1b, .slice p1b k1b d1b, .bool m1c, .slice o1c n1c c1c, .slice p1c k1c d1c] 0 hB_0
    rw [hslw6] at hB_1
    have fha_1 := fha_0.kept (Kept.setPart ph_0 (noWordB _ rfl) 0 [.bool m1a, .slice o1a n1a c1a, .slice p1a k1a d1a, .bool m1b, .slice o1b n1b c1b, .slice p1b k1b d1b, .bool m1c, .slice o1c n1c c1c, .slice p1c k1c d1c] (by simp))
    rw [hslw6] at fha_1
    have fhb_1 := fhb_0.kept (Kept.setPart ph_0 (noWordB _ rfl) 0 [.bool m1a, .slice o1a n1a c1a, .slice p1a k1a d1a, .bool m1b, .slice o1b n1b c1b, .slice p1b k1b d1b, .bool m1c, .slice o1c n1c c1c, .slice p1c k1c d1c] (by simp))
    rw [hslw6] at fhb_1
    have fhc_1 := fhc_0.kept (Kept.setPart ph_0 (noWordB _ rfl) 0 [.bool m1a, .slice o1a n1a c1a, .slice p1a k1a d1a, .bool m1b, .slice o1b n1b c1b, .slice p1b k1b d1b, .bool m1c, .slice o1c n1c c1c, .slice p1c k1c d1c] (by simp))
    rw [hslw6] at fhc_1
    have fsx_1 := fsx_0.kept (Kept.setPart ph_0 (noWordB _ rfl) 0 [.bool m1a, .slice o1a n1a c1a, .slice p1a k1a d1a, .bool m1b, .slice o1b n1b c1b, .slice p1b k1b d1b, .bool m1c, .slice o1c n1c c1c, .slice p1c k1c d1c] (by simp))
    rw [hslw6] at fsx_1
    have fsy_1 := fsy_0.kept (Kept.setPart ph_0 (noWordB _ rfl) 0 [.bool m1a, .slice o1a n1a c1a, .slice p1a k1a d1a, .bool m1b, .slice o1b n1b c1b, .slice p1b k1b d1b, .bool m1c, .slice o1c n1c c1c, .slice p1c k1c d1c] (by simp))
    rw [hslw6] at fsy_1
    have ps_1 := Box.farFrom (g' := w.heap.size) (by omega) [.bool m1a, .slice o1a n1a c1a, .slice p1a k1a d1a, .bool m1b, .slice o1b n1b c1b, .slice p1b k1b d1b, .bool m1c, .slice o1c n1c c1c, .slice p1c k1c d1c] 0 ps_0
    rw [hslw6] at ps_1
    have sp1_1 := sp1_0.setBox ph_0 (noWordB _ rfl) [.bool m1a, .slice o1a n1a c1a, .slice p1a k1a d1a, .bool m1b, .slice o1b n1b c1b, .slice p1b k1b d1b, .bool m1c, .slice o1c n1c c1c, .slice p1c k1c d1c] rfl (fun a ha => by have h1 := frsp1 a ha; omega)
    rw [hslw6] at sp1_1
    have f1a_1 := f1a_0.kept (Kept.setPart ph_0 (noWordB _ rfl) 0 [.bool m1a, .slice o1a n1a c1a, .slice p1a k1a d1a, .bool m1b, .slice o1b n1b c1b, .slice p1b k1b d1b, .bool m1c, .slice o1c n1c c1c, .slice p1c k1c d1c] (by simp))
    rw [hslw6] at f1a_1
    have f1b_1 := f1b_0.kept (Kept.setPart ph_0 (noWordB _ rfl) 0 [.bool m1a, .slice o1a n1a c1a, .slice p1a k1a d1a, .bool m1b, .slice o1b n1b c1b, .slice p1b k1b d1b, .bool m1c, .slice o1c n1c c1c, .slice p1c k1c d1c] (by simp))
    rw [hslw6] at f1b_1
    have f1c_1 := f1c_0.kept (Kept.setPart ph_0 (noWordB _ rfl) 0 [.bool m1a, .slice o1a n1a c1a, .slice p1a k1a d1a, .bool m1b, .slice o1b n1b c1b, .slice p1b k1b d1b, .bool m1c, .slice o1c n1c c1c, .slice p1c k1c d1c] (by simp))
    rw [hslw6] at f1c_1
    have f2x_1 := f2x_0.kept (Kept.setPart ph_0 (noWordB _ rfl) 0 [.bool m1a, .slice o1a n1a c1a, .slice p1a k1a d1a, .bool m1b, .slice o1b n1b c1b, .slice p1b k1b d1b, .bool m1c, .slice o1c n1c c1c, .slice p1c k1c d1c] (by simp))
    rw [hslw6] at f2x_1
    have f2y_1 := f2y_0.kept (Kept.setPart ph_0 (noWordB _ rfl) 0 [.bool m1a, .slice o1a n1a c1a, .slice p1a k1a d1a, .bool m1b, .slice o1b n1b c1b, .slice p1b k1b d1b, .bool m1c, .slice o1c n1c c1c, .slice p1c k1c d1c] (by simp))
    rw [hslw6] at f2y_1
    have ph_1 := ph_0.setAll [.bool m1a, .slice o1a n1a c1a, .slice p1a k1a d1a, .bool m1b, .slice o1b n1b c1b, .slice p1b k1b d1b, .bool m1c, .slice o1c n1c c1c, .slice p1c k1c d1c] rfl
    rw [hslw6] at ph_1
    refine wanted_go rfl ?_
    refine wp_store_box _ _ _ rfl [.bool m1a, .slice o1a n1a c1a, .slice p1a k1a d1a, .bool m1b, .slice o1b n1b c1b, .slice p1b k1b d1b, .bool m1c, .slice o1c n1c c1c, .slice p1c k1c d1c] ph_0 rfl rfl (by kernel_rfl) (by simp) rfl hslw6 ?_
    clear hslw6 hB_0 fha_0 fhb_0 fhc_0 fsx_0 fsy_0 ps_0 sp1_0 f1a_0 f1b_0 f1c_0 f2x_0 f2y_0 ph_0
    refine hK.out _ _ trivial (fun hHeld => ?_)
    clear hK K
    try simp only [Act.put]
    try simp only [List.setIfInBounds_toArray, List.set_cons_zero, List.set_cons_succ]
    obtain ⟨sf1a, sf1b, sf1c, sf1d, sf1e, sf1f, sf1g, sf1h, sf1i, sf1j, sf1k, sf1l⟩ := ps_1.open6
    obtain ⟨sg1a, sg1b, sg1c, sg1d, sg1e, sg1f, sg1g, sg1h, sg1i, sg1j⟩ := Box.put6 ps_1 (.bool m2x) (.slice o2x n2x c2x) (.slice p2x k2x d2x) (.bool m2y) (.slice o2y n2y c2y)
    refine reg_call 5 ?_ (by kernel_rfl) ?_ (fun K hK => ?_)
    rotate_left 1
    · simp only [List.getElem?_toArray, List.getElem?_cons_succ, List.getElem?_cons_zero]; exact rfl
    go_simp
    have hB_2 := below_setAll hB_1 (g := w.heap.size + 1) (by omega) [.bool m2x, .slice o2x n2x c2x, .slice p2x k2x d2x, .bool m2y, .slice o2y n2y c2y, .slice p2y k2y d2y]
    have fha_2 := fha_1.setAll ps_1 (noWord6 _ _ _ _ _ _ _ _ _ _ _ _ _ _) [.bool m2x, .slice o2x n2x c2x, .slice p2x k2x d2x, .bool m2y, .slice o2y n2y c2y, .slice p2y k2y d2y] rfl
    have fhb_2 := fhb_1.setAll ps_1 (noWord6 _ _ _ _ _ _ _ _ _ _ _ _ _ _) [.bool m2x, .slice o2x n2x c2x, .slice p2x k2x d2x, .bool m2y, .slice o2y n2y c2y, .slice p2y k2y d2y] rfl
    have fhc_2 := fhc_1.setAll ps_1 (noWord6 _ _ _ _ _ _ _ _ _ _ _ _ _ _) [.bool m2x, .slice o2x n2x c2x, .slice p2x k2x d2x, .bool m2y, .slice o2y n2y c2y, .slice p2y k2y d2y] rfl
    have fsx_2 := fsx_1.setAll ps_1 (noWord6 _ _ _ _ _ _ _ _ _ _ _ _ _ _) [.bool m2x, .slice o2x n2x c2x, .slice p2x k2x d2x, .bool m2y, .slice o2y n2y c2y, .slice p2y k2y d2y] rfl
    have fsy_2 := fsy_1.setAll ps_1 (noWord6 _ _ _ _ _ _ _ _ _ _ _ _ _ _) [.bool m2x, .slice o2x n2x c2x, .slice p2x k2x d2x, .bool m2y, .slice o2y n2y c2y, .slice p2y k2y d2y] rfl
    have ph_2 := ph_1.farAll (g' := w.heap.size + 1) (by omega) [.bool m2x, .slice o2x n2x c2x, .slice p2x k2x d2x, .bool m2y, .slice o2y n2y c2y, .slice p2y k2y d2y]
    have sp1_2 := sp1_1.setBox ps_1 (noWord6 _ _ _ _ _ _ _ _ _ _ _ _ _ _) [.bool m2x, .slice o2x n2x c2x, .slice p2x k2x d2x, .bool m2y, .slice o2y n2y c2y, .slice p2y k2y d2y] rfl (fun a ha => by have h1 := frsp1 a ha; omega)
    have f1a_2 := f1a_1.setAll ps_1 (noWord6 _ _ _ _ _ _ _ _ _ _ _ _ _ _) [.bool m2x, .slice o2x n2x c2x, .slice p2x k2x d2x, .bool m2y, .slice o2y n2y c2y, .slice p2y k2y d2y] rfl
    have f1b_2 := f1b_1.setAll ps_1 (noWord6 _ _ _ _ _ _ _ _ _ _ _ _ _ _) [.bool m2x, .slice o2x n2x c2x, .slice p2x k2x d2x, .bool m2y, .slice o2y n2y c2y, .slice p2y k2y d2y] rfl
    have f1c_2 := f1c_1.setAll ps_1 (noWord6 _ _ _ _ _ _ _ _ _ _ _ _ _ _) [.bool m2x, .slice o2x n2x c2x, .slice p2x k2x d2x, .bool m2y, .slice o2y n2y c2y, .slice p2y k2y d2y] rfl
    have f2x_2 := f2x_1.setAll ps_1 (noWord6 _ _ _ _ _ _ _ _ _ _ _ _ _ _) [.bool m2x, .slice o2x n2x c2x, .slice p2x k2x d2x, .bool m2y, .slice o2y n2y c2y, .slice p2y k2y d2y] rfl
    have f2y_2 := f2y_1.setAll ps_1 (noWord6 _ _ _ _ _ _ _ _ _ _ _ _ _ _) [.bool m2x, .slice o2x n2x c2x, .slice p2x k2x d2x, .bool m2y, .slice o2y n2y c2y, .slice p2y k2y d2y] rfl
    have ps_2 := ps_1.setAll [.bool m2x, .slice o2x n2x c2x, .slice p2x k2x d2x, .bool m2y, .slice o2y n2y c2y, .slice p2y k2y d2y] rfl
    simp only [setAll, Nat.zero_add, Nat.reduceAdd] at hB_2 fha_2 fhb_2 fhc_2 fsx_2 fsy_2 ph_2 ps_2 sp1_2 f1a_2 f1b_2 f1c_2 f2x_2 f2y_2
    clear sf1a sf1b sf1c sf1d sf1e sf1f sf1g sf1h sf1i sf1j sf1k sf1l sg1a sg1b sg1c sg1d sg1e sg1f sg1g sg1h sg1i sg1j
    clear hB_1 fha_1 fhb_1 fhc_1 fsx_1 fsy_1 ph_1 sp1_1 f1a_1 f1b_1 f1c_1 f2x_1 f2y_1 ps_1
    refine hK.out _ _ trivial (fun hHeld => ?_)
    clear hK K
    try simp only [Act.put]
    try simp only [List.setIfInBounds_toArray, List.set_cons_zero, List.set_cons_succ]
    generalize (World.setCell (World.setCell (World.setCell (World.setCell (World.setCell (World.setCell w6 ⟨w.heap.size + 1, 0, none⟩ (.bool m2x)) ⟨w.heap.size + 1, 1, none⟩ (.slice o2x n2x c2x)) ⟨w.heap.size + 1, 2, none⟩ (.slice p2x k2x d2x)) ⟨w.heap.size + 1, 3, none⟩ (.bool m2y)) ⟨w.heap.size + 1, 4, none⟩ (.slice o2y n2y c2y)) ⟨w.heap.size + 1, 5, none⟩ (.slice p2y k2y d2y)) = w7 at *
    refine wpAnyH_done (by kernel_rfl) ?_ _
    refine NoPanic.normal ?_
    clear fha_2 fhb_2 fhc_2 fsx_2 fsy_2
    obtain ⟨phe0, phe1, phe2, phe3, phe4, phe5, phe6, phe7, phe8, phe9, phe10, phe11, phe12, phe13, phe14, phe15, phe16, phe17⟩ := ph_2.open9
    by_cases hfl1 : tameQ Xha Dha = 0 ∧ tameQ Xhb Dhb = 0
    · go_wp2_with fail
      refine (hflat_any 1 _ _ _ (by omega) f1a_2.q f1b_2.q true ⟨fun _ => rfl, fun _ => hfl1⟩).mono ?_
      rintro e w8 ⟨rfl, hb8⟩
      clear phe0 phe1 phe2 phe3 phe4 phe5 phe6 phe7 phe8 phe9 phe10 phe11 phe12 phe13 phe14 phe15 phe16 phe17
      have hB_3 := hB_2.trans (hb8.mono hB_2.size)
      have ph_3 := ph_2.below hb8
      have ps_3 := ps_2.below hb8
      have sp1_3 := sp1_2.below hb8
      have f1a_3 := f1a_2.below hb8
      have f1b_3 := f1b_2.below hb8
      have f1c_3 := f1c_2.below hb8
      have f2x_3 := f2x_2.below hb8
      have f2y_3 := f2y_2.below hb8
      clear hb8 hB_2 ph_2 ps_2 sp1_2 f1a_2 f1b_2 f1c_2 f2x_2 f2y_2
      go_wp2
      go_ret
      exact ⟨rfl, hB_3⟩
    · have hAB : tameQ Xha Dha ≠ 0 ∨ tameQ Xhb Dhb ≠ 0 := by
        by_cases e : tameQ Xha Dha = 0
        · exact .inr (fun e2 => hfl1 ⟨e, e2⟩)
        · exact .inl e
      have HAB1 := Lib.hid hAB; have HF1 := Lib.hid hfl1; clear hAB hfl1
      go_wp2_with fail
      refine (hflat_any 1 _ _ _ (by omega) f1a_2.q f1b_2.q false ⟨fun h => absurd h HF1.out, fun h => by cases h⟩).mono ?_
      rintro e w8 ⟨rfl, hb8⟩
      clear phe0 phe1 phe2 phe3 phe4 phe5 phe6 phe7 phe8 phe9 phe10 phe11 phe12 phe13 phe14 phe15 phe16 phe17
      have hB_3 := hB_2.trans (hb8.mono hB_2.size)
      have ph_3 := ph_2.below hb8
      have ps_3 := ps_2.below hb8
      have sp1_3 := sp1_2.below hb8
      have f1a_3 := f1a_2.below hb8
      have f1b_3 := f1b_2.below hb8
      have f1c_3 := f1c_2.below hb8
      have f2x_3 := f2x_2.below hb8
      have f2y_3 := f2y_2.below hb8
      clear hb8 hB_2 ph_2 ps_2 sp1_2 f1a_2 f1b_2 f1c_2 f2x_2 f2y_2
      obtain ⟨phe0, phe1, phe2, phe3, phe4, phe5, phe6, phe7, phe8, phe9, phe10, phe11, phe12, phe13, phe14, phe15, phe16, phe17⟩ := ph_3.open9
      go_wp2_with fail
      refine (clipPoly po n0 pc P _ _ _ _ HPN.out (by omega) HPOLY.out SML.out HAB1.out sp1_3 f1a_3.q f1b_3.q f1c_3.q).mono ?_
      rintro e w9 ⟨ao3, ac3, rfl, sp3_0, frsp3, hb9⟩
      clear phe0 phe1 phe2 phe3 phe4 phe5 phe6 phe7 phe8 phe9 phe10 phe11 phe12 phe13 phe14 phe15 phe16 phe17
      have hB_4 := hB_3.trans (hb9.mono hB_3.size)
      have ph_4 := ph_3.below hb9
      have ps_4 := ps_3.below hb9
      have sp1_4 := sp1_3.below hb9
      have f1a_4 := f1a_3.below hb9
      have f1b_4 := f1b_3.below hb9
      have f1c_4 := f1c_3.below hb9
      have f2x_4 := f2x_3.below hb9
      have f2y_4 := f2y_3.below hb9
      clear hb9 hB_3 ph_3 ps_3 sp1_3 f1a_3 f1b_3 f1c_3 f2x_3 f2y_3
      have hcl3 := clip_len (l := P) HAB1.out (C := tameQ Xhc Dhc) HPOLY.out.1
      rw [HPN.out] at hcl3
      generalize hLn : (clipQ (tameQ Xha Dha) (tameQ Xhb Dhb) (tameQ Xhc Dhc) P).length = n3 at *
      have HN3 := Lib.hid hLn; clear hLn
      obtain ⟨phe0, phe1, phe2, phe3, phe4, phe5, phe6, phe7, phe8, phe9, phe10, phe11, phe12, phe13, phe14, phe15, phe16, phe17⟩ := ph_4.open9
      obtain ⟨pse0, pse1, pse2, pse3, pse4, pse5, pse6, pse7, pse8, pse9, pse10, pse11⟩ := ps_4.open6
      go_wp2_with fail
      refine (cValue_any 1 _ _ _ 1 _ _ _ (by omega) (by omega) f1a_4.q f1b_4.q f1c_4.q f2x_4.q f2y_4.q).mono ?_
      rintro e w10 ⟨m4, o4, n4, c4, p4, k4, d4, rfl, f4_0, hb10⟩
      clear phe0 phe1 phe2 phe3 phe4 phe5 phe6 phe7 phe8 phe9 phe10 phe11 phe12 phe13 phe14 phe15 phe16 phe17 pse0 pse1 pse2 pse3 pse4 pse5 pse6 pse7 pse8 pse9 pse10 pse11
      have hB_5 := hB_4.trans (hb10.mono hB_4.size)
      have ph_5 := ph_4.below hb10
      have ps_5 := ps_4.below hb10
      have sp1_5 := sp1_4.below hb10
      have f1a_5 := f1a_4.below hb10
      have f1b_5 := f1b_4.below hb10
      have f1c_5 := f1c_4.below hb10
      have f2x_5 := f2x_4.below hb10
      have f2y_5 := f2y_4.below hb10
      have sp3_1 := sp3_0.below hb10
      clear hb10 hB_4 ph_4 ps_4 sp1_4 f1a_4 f1b_4 f1c_4 f2x_4 f2y_4 sp3_0
      have hl1ph := ph_5.lt
      have hl1ps := ps_5.lt
      have hl1B := hB_5.size
      obtain ⟨w11, hw11, pv_0, hb11, hs11⟩ := new_box w10 (w10.heap.size) rfl [.bool m4, .slice o4 n4 c4, .slice p4 k4 d4] 28
      have hb11' : Below w10.heap.size w10 w11 := hb11.mono (by omega)
      clear hb11
      have hB_6 := hB_5.trans (hb11'.mono hB_5.size)
      have ph_6 := ph_5.below hb11'
      have ps_6 := ps_5.below hb11'
      have sp1_6 := sp1_5.below hb11'
      have f1a_6 := f1a_5.below hb11'
      have f1b_6 := f1b_5.below hb11'
      have f1c_6 := f1c_5.below hb11'
      have f2x_6 := f2x_5.below hb11'
      have f2y_6 := f2y_5.below hb11'
      have sp3_2 := sp3_1.below hb11'
      have f4_1 := f4_0.below hb11'
      clear hb11' hB_5 ph_5 ps_5 sp1_5 f1a_5 f1b_5 f1c_5 f2x_5 f2y_5 sp3_1 f4_0
      by_cases hz : n3 = 0
      · subst hz
        have hnil : clipQ (tameQ Xha Dha) (tameQ Xhb Dhb) (tameQ Xhc Dhc) P = [] := List.eq_nil_of_length_eq_zero HN3.out
        have HNIL := Lib.hid hnil; clear hnil
        go_wp2
        try rw [hw11]
        have F1a := Lib.hid f1a_6
        have F1b := Lib.hid f1b_6
        have F1c := Lib.hid f1c_6
        have SPP := Lib.hid sp1_6; have PHH := Lib.hid ph_6
        clear f1a_6 f1b_6 f1c_6 sp3_2 sp1_6 ph_6 f2x_6 f2y_6 f4_1 ps_6 pv_0
        have hW_0 := Below.refl w11.heap.size w11
        have hws := hB_6.size
        go_loopw [33] (fun iv wr => ∃ k : Nat, k ≤ n0 ∧ iv = .int .i64 k ∧ Below w.heap.size w wr ∧ Below w11.heap.size w11 wr) (fun iv _ => n0 - (intOf iv).toNat)
        case atStart => exact ⟨0, Nat.zero_le _, rfl, hB_6, hW_0⟩
        case round =>
          obtain ⟨k, hk, rfl, hB_0, hW_0⟩ := hrel
          by_cases hlt : k < n0
          · obtain ⟨⟨x, y⟩, hlk⟩ : ∃ p, P[k]? = some p := ⟨_, List.getElem?_eq_getElem (by rw [HPN.out]; omega)⟩
            have hnn := none_neg HPOLY.out.1 HNIL.out hlk
            obtain ⟨b, o, m9x, o9x, n9x, c9x, p9x, k9x, d9x, m9y, o9y, n9y, c9y, p9y, k9y, d9y, hao, dd, r9x, r9y⟩ := (SPP.out.below hW_0) k x y hlk
            subst hao
            obtain ⟨ee0, ee1, ee2, ee3, ee4, ee5⟩ := dd
            obtain ⟨sc, hsc⟩ : ∃ s, (fvQ (tameQ Xha Dha) (tameQ Xhb Dhb) (tameQ Xhc Dhc) (x, y)).num.sign = s := ⟨_, rfl⟩
            have hle : ¬ sc < 0 := by
              rw [← hsc]; intro h
              rcases sgn_cases (fvQ (tameQ Xha Dha) (tameQ Xhb Dhb) (tameQ Xhc Dhc) (x, y)) with ⟨h1, e⟩ | ⟨h1, e⟩ | ⟨h1, e⟩
              · exact hnn h1
              · omega
              · omega
            have HSC := Lib.hid hsc; clear hsc hnn hlk
            have f9x_0 := r9x.q; have f9y_0 := r9y.q; clear r9x r9y
            have ph_0 := PHH.out.below hW_0
            have f1a_0 := F1a.out.below hW_0
            have f1b_0 := F1b.out.below hW_0
            have f1c_0 := F1c.out.below hW_0
            have hl1ph := ph_0.lt
            have hl1B := hB_0.size
            obtain ⟨w12, hw12, pt_0, hb12, hs12⟩ := new_box wr (wr.heap.size) rfl [.bool m9x, .slice o9x n9x c9x, .slice p9x k9x d9x, .bool m9y, .slice o9y n9y c9y, .slice p9y k9y d9y] 42
            have hb12' : Below wr.heap.size wr w12 := hb12.mono (by omega)
            clear hb12
            have hB_1 := hB_0.trans (hb12'.mono hB_0.size)
            have hW_1 := hW_0.trans (hb12'.mono hW_0.size)
            have f1a_1 := f1a_0.below hb12'
            have f1b_1 := f1b_0.below hb12'
            have f1c_1 := f1c_0.below hb12'
            have f9x_1 := f9x_0.below hb12'
            have f9y_1 := f9y_0.below hb12'
            have ph_1 := ph_0.below hb12'
            clear hb12' hB_0 hW_0 f1a_0 f1b_0 f1c_0 f9x_0 f9y_0 ph_0
            obtain ⟨phe0, phe1, phe2, phe3, phe4, phe5, phe6, phe7, phe8, phe9, phe10, phe11, phe12, phe13, phe14, phe15, phe16, phe17⟩ := ph_1.open9
            obtain ⟨pte0, pte1, pte2, pte3, pte4, pte5, pte6, pte7, pte8, pte9, pte10, pte11⟩ := pt_0.open6
            go_wp2_with fail
            refine (cValue_any 1 _ _ _ 7 x y _ (by omega) (by omega) f1a_1.q f1b_1.q f1c_1.q f9x_1 f9y_1).mono ?_
            rintro e w13 ⟨m10, o10, n10, c10, p10, k10, d10, rfl, f10_0, hb13⟩
            clear phe0 phe1 phe2 phe3 phe4 phe5 phe6 phe7 phe8 phe9 phe10 phe11 phe12 phe13 phe14 phe15 phe16 phe17 pte0 pte1 pte2 pte3 pte4 pte5 pte6 pte7 pte8 pte9 pte10 pte11
            have hB_2 := hB_1.trans (hb13.mono hB_1.size)
            have hW_2 := hW_1.trans (hb13.mono hW_1.size)
            have f1a_2 := f1a_1.below hb13
            have f1b_2 := f1b_1.below hb13
            have f1c_2 := f1c_1.below hb13
            have f9x_2 := f9x_1.below hb13
            have f9y_2 := f9y_1.below hb13
            have ph_2 := ph_1.below hb13
            have pt_1 := pt_0.below hb13
            clear hb13 hB_1 hW_1 f1a_1 f1b_1 f1c_1 f9x_1 f9y_1 ph_1 pt_0
            clear ee0 ee1 ee2 ee3 ee4 ee5
            go_wp2_with fail
            refine (qSign _ _ _ _ (by omega) f10_0.q sc HSC.out).mono ?_
            rintro e w14 ⟨rfl, hb14⟩
            have hB_3 := hB_2.trans (hb14.mono hB_2.size)
            have hW_3 := hW_2.trans (hb14.mono hW_2.size)
            have f1a_3 := f1a_2.below hb14
            have f1b_3 := f1b_2.below hb14
            have f1c_3 := f1c_2.below hb14
            have f9x_3 := f9x_2.below hb14
            have f9y_3 := f9y_2.below hb14
            have ph_3 := ph_2.below hb14
            have pt_2 := pt_1.below hb14
            have f10_1 := f10_0.below hb14
            clear hb14 hB_2 hW_2 f1a_2 f1b_2 f1c_2 f9x_2 f9y_2 ph_2 pt_1 f10_0
            go_wp2
            exact ⟨⟨k + 1, by omega, by go_num, hB_3, hW_3⟩, by simp [intOf]; omega⟩
          · obtain rfl : k = n0 := by omega
            go_wp2
            go_ret
            exact ⟨rfl, hB_0⟩
      · have hnn : clipQ (tameQ Xha Dha) (tameQ Xhb Dhb) (tameQ Xhc Dhc) P ≠ [] := fun e => hz (by rw [← HN3.out, e]; rfl)
        have hin := clip_in0 HPOLY.out.1 hnn (tameQ Xsx Dsx, tameQ Xsy Dsy)
        have hz0 : ((n3 : Int) == 0) = false := by simp; omega
        have HIN := Lib.hid hin; clear hin hnn
        obtain ⟨sc, hsc⟩ : ∃ s, (fvQ (tameQ Xha Dha) (tameQ Xhb Dhb) (tameQ Xhc Dhc) (tameQ Xsx Dsx, tameQ Xsy Dsy)).num.sign = s := ⟨_, rfl⟩
        have hle := sgn_le0 (fvQ (tameQ Xha Dha) (tameQ Xhb Dhb) (tameQ Xhc Dhc) (tameQ Xsx Dsx, tameQ Xsy Dsy))
        rw [hsc] at hle
        have HSC := Lib.hid hsc; have HLE := Lib.hid hle; clear hsc hle
        go_wp2
        try rw [hw11]
        by_cases hp : InL P (tameQ Xsx Dsx, tameQ Xsy Dsy)
        · have HPI := Lib.hid hp; clear hp
          by_cases hs : sc ≤ 0
          · have HS := Lib.hid hs
            have e1 : decide (sc ≤ 0) = true := by simp; omega
            have hB_7 := hB_6.drew'
            have ph_7 := ph_6.drew
            have ps_7 := ps_6.drew
            have sp1_7 := sp1_6.drew
            have f1a_7 := f1a_6.drew
            have f1b_7 := f1b_6.drew
            have f1c_7 := f1c_6.drew
            have f2x_7 := f2x_6.drew
            have f2y_7 := f2y_6.drew
            have sp3_3 := sp3_2.drew
            have f4_2 := f4_1.drew
            have pv_1 := pv_0.drew
            clear hB_6 ph_6 ps_6 sp1_6 f1a_6 f1b_6 f1c_6 f2x_6 f2y_6 sp3_2 f4_1 pv_0
            go_region_held3 (fun w' => w'.cell? ⟨w.heap.size, 0, none⟩ = some (.bool m1a) ∧ w'.cell? ⟨w.heap.size, 1, none⟩ = some (.slice o1a n1a c1a) ∧ w'.cell? ⟨w.heap.size, 2, none⟩ = some (.slice p1a k1a d1a) ∧ w'.cell? ⟨w.heap.size, 3, none⟩ = some (.bool m1b) ∧ w'.cell? ⟨w.heap.size, 4, none⟩ = some (.slice o1b n1b c1b) ∧ w'.cell? ⟨w.heap.size, 5, none⟩ = some (.slice p1b k1b d1b) ∧ w'.cell? ⟨w.heap.size, 6, none⟩ = some (.bool m1c) ∧ w'.cell? ⟨w.heap.size, 7, none⟩ = some (.slice o1c n1c c1c) ∧ w'.cell? ⟨w.heap.size, 8, none⟩ = some (.slice p1c k1c d1c) ∧ w'.cell? ⟨w.heap.size + 1, 0, none⟩ = some (.bool m2x) ∧ w'.cell? ⟨w.heap.size + 1, 1, none⟩ = some (.slice o2x n2x c2x) ∧ w'.cell? ⟨w.heap.size + 1, 2, none⟩ = some (.slice p2x k2x d2x) ∧ w'.cell? ⟨w.heap.size + 1, 3, none⟩ = some (.bool m2y) ∧ w'.cell? ⟨w.heap.size + 1, 4, none⟩ = some (.slice o2y n2y c2y) ∧ w'.cell? ⟨w.heap.size + 1, 5, none⟩ = some (.slice p2y k2y d2y) ∧ w'.cell? ⟨w10.heap.size, 0, none⟩ = some (.bool m4) ∧ w'.cell? ⟨w10.heap.size, 1, none⟩ = some (.slice o4 n4 c4) ∧ w'.cell? ⟨w10.heap.size, 2, none⟩ = some (.slice p4 k4 d4))
              (first | with_reducible exact ⟨ph_7.c0, ph_7.c1, ph_7.c2, ph_7.c3, ph_7.c4, ph_7.c5, ph_7.c6, ph_7.c7, ph_7.c8, ps_7.c0, ps_7.c1, ps_7.c2, ps_7.c3, ps_7.c4, ps_7.c5, pv_1.c0, pv_1.c1, pv_1.c2⟩ | with_reducible exact ⟨ph_8.c0, ph_8.c1, ph_8.c2, ph_8.c3, ph_8.c4, ph_8.c5, ph_8.c6, ph_8.c7, ph_8.c8, ps_8.c0, ps_8.c1, ps_8.c2, ps_8.c3, ps_8.c4, ps_8.c5, pv_2.c0, pv_2.c1, pv_2.c2⟩ | with_reducible exact ⟨ph_9.c0, ph_9.c1, ph_9.c2, ph_9.c3, ph_9.c4, ph_9.c5, ph_9.c6, ph_9.c7, ph_9.c8, ps_9.c0, ps_9.c1, ps_9.c2, ps_9.c3, ps_9.c4, ps_9.c5, pv_3.c0, pv_3.c1, pv_3.c2⟩ | with_reducible exact ⟨ph_10.c0, ph_10.c1, ph_10.c2, ph_10.c3, ph_10.c4, ph_10.c5, ph_10.c6, ph_10.c7, ph_10.c8, ps_10.c0, ps_10.c1, ps_10.c2, ps_10.c3, ps_10.c4, ps_10.c5, pv_4.c0, pv_4.c1, pv_4.c2⟩ | with_reducible exact ⟨ph_11.c0, ph_11.c1, ph_11.c2, ph_11.c3, ph_11.c4, ph_11.c5, ph_11.c6, ph_11.c7, ph_11.c8, ps_11.c0, ps_11.c1, ps_11.c2, ps_11.c3, ps_11.c4, ps_11.c5, pv_5.c0, pv_5.c1, pv_5.c2⟩ | with_reducible exact ⟨ph_12.c0, ph_12.c1, ph_12.c2, ph_12.c3, ph_12.c4, ph_12.c5, ph_12.c6, ph_12.c7, ph_12.c8, ps_12.c0, ps_12.c1, ps_12.c2, ps_12.c3, ps_12.c4, ps_12.c5, pv_6.c0, pv_6.c1, pv_6.c2⟩ | with_reducible exact ⟨ph_13.c0, ph_13.c1, ph_13.c2, ph_13.c3, ph_13.c4, ph_13.c5, ph_13.c6, ph_13.c7, ph_13.c8, ps_13.c0, ps_13.c1, ps_13.c2, ps_13.c3, ps_13.c4, ps_13.c5, pv_7.c0, pv_7.c1, pv_7.c2⟩ | with_reducible exact ⟨ph_14.c0, ph_14.c1, ph_14.c2, ph_14.c3, ph_14.c4, ph_14.c5, ph_14.c6, ph_14.c7, ph_14.c8, ps_14.c0, ps_14.c1, ps_14.c2, ps_14.c3, ps_14.c4, ps_14.c5, pv_8.c0, pv_8.c1, pv_8.c2⟩ | with_reducible exact ⟨ph_15.c0, ph_15.c1, ph_15.c2, ph_15.c3, ph_15.c4, ph_15.c5, ph_15.c6, ph_15.c7, ph_15.c8, ps_15.c0, ps_15.c1, ps_15.c2, ps_15.c3, ps_15.c4, ps_15.c5, pv_9.c0, pv_9.c1, pv_9.c2⟩ | fail)
              (first
                | (go_at_call 20; (with_reducible refine (cWithin_any ao3 n3 ac3 (clipQ (tameQ Xha Dha) (tameQ Xhb Dhb) (tameQ Xhc Dhc) P) 1 7 _ _ true _ HN3.out (by omega) (by omega) (by omega) sp3_3 f2x_7.q f2y_7.q ⟨fun _ => rfl, fun _ => HIN.out.2 ⟨HPI.out, HLE.out.1 HS.out⟩⟩).mono ?_); rintro e w12 ⟨rfl, hb12⟩; have hB_8 := hB_7.trans (hb12.mono hB_7.size); have ph_8 := ph_7.below hb12; have ps_8 := ps_7.below hb12; have sp1_8 := sp1_7.below hb12; have f1a_8 := f1a_7.below hb12; have f1b_8 := f1b_7.below hb12; have f1c_8 := f1c_7.below hb12; have f2x_8 := f2x_7.below hb12; have f2y_8 := f2y_7.below hb12; have sp3_4 := sp3_3.below hb12; have f4_3 := f4_2.below hb12; have pv_2 := pv_1.below hb12; clear hb12 hB_7 ph_7 ps_7 sp1_7 f1a_7 f1b_7 f1c_7 f2x_7 f2y_7 sp3_3 f4_2 pv_1)
                | (go_at_call 20; (with_reducible refine (cWithin_any po n0 pc P 1 7 _ _ true _ HPN.out (by omega) (by omega) (by omega) sp1_8 f2x_8.q f2y_8.q ⟨fun _ => rfl, fun _ => HPI.out⟩).mono ?_); rintro e w13 ⟨rfl, hb13⟩; have hB_9 := hB_8.trans (hb13.mono hB_8.size); have ph_9 := ph_8.below hb13; have ps_9 := ps_8.below hb13; have sp1_9 := sp1_8.below hb13; have f1a_9 := f1a_8.below hb13; have f1b_9 := f1b_8.below hb13; have f1c_9 := f1c_8.below hb13; have f2x_9 := f2x_8.below hb13; have f2y_9 := f2y_8.below hb13; have sp3_5 := sp3_4.below hb13; have f4_4 := f4_3.below hb13; have pv_3 := pv_2.below hb13; clear hb13 hB_8 ph_8 ps_8 sp1_8 f1a_8 f1b_8 f1c_8 f2x_8 f2y_8 sp3_4 f4_3 pv_2)
                | (go_at_call 18; (with_reducible refine (qSign _ (((1 + 1 + 2) + (1 + 1 + 2) + 2) + 1 + 2) _ _ (by omega) f4_4.q sc HSC.out).mono ?_); rintro e w14 ⟨rfl, hb14⟩; have hB_10 := hB_9.trans (hb14.mono hB_9.size); have ph_10 := ph_9.below hb14; have ps_10 := ps_9.below hb14; have sp1_10 := sp1_9.below hb14; have f1a_10 := f1a_9.below hb14; have f1b_10 := f1b_9.below hb14; have f1c_10 := f1c_9.below hb14; have f2x_10 := f2x_9.below hb14; have f2y_10 := f2y_9.below hb14; have sp3_6 := sp3_5.below hb14; have f4_5 := f4_4.below hb14; have pv_4 := pv_3.below hb14; clear hb14 hB_9 ph_9 ps_9 sp1_9 f1a_9 f1b_9 f1c_9 f2x_9 f2y_9 sp3_5 f4_4 pv_3)
                | (go_at_call 23; (with_reducible refine (qMul _ _ 1 1 _ _ _ (by omega) (by omega) f1a_10.q f2x_10.q).mono ?_); rintro e w15 ⟨m5, o5, n5, c5, p5, k5, d5, rfl, f5_0, hb15⟩; have hB_11 := hB_10.trans (hb15.mono hB_10.size); have ph_11 := ph_10.below hb15; have ps_11 := ps_10.below hb15; have sp1_11 := sp1_10.below hb15; have f1a_11 := f1a_10.below hb15; have f1b_11 := f1b_10.below hb15; have f1c_11 := f1c_10.below hb15; have f2x_11 := f2x_10.below hb15; have f2y_11 := f2y_10.below hb15; have sp3_7 := sp3_6.below hb15; have f4_6 := f4_5.below hb15; have pv_5 := pv_4.below hb15; clear hb15 hB_10 ph_10 ps_10 sp1_10 f1a_10 f1b_10 f1c_10 f2x_10 f2y_10 sp3_6 f4_5 pv_4)
                | (go_at_call 23; (with_reducible refine (qMul _ _ 1 1 _ _ _ (by omega) (by omega) f1b_11.q f2y_11.q).mono ?_); rintro e w16 ⟨m6, o6, n6, c6, p6, k6, d6, rfl, f6_0, hb16⟩; have hB_12 := hB_11.trans (hb16.mono hB_11.size); have ph_12 := ph_11.below hb16; have ps_12 := ps_11.below hb16; have sp1_12 := sp1_11.below hb16; have f1a_12 := f1a_11.below hb16; have f1b_12 := f1b_11.below hb16; have f1c_12 := f1c_11.below hb16; have f2x_12 := f2x_11.below hb16; have f2y_12 := f2y_11.below hb16; have sp3_8 := sp3_7.below hb16; have f4_7 := f4_6.below hb16; have pv_6 := pv_5.below hb16; have f5_1 := f5_0.below hb16; clear hb16 hB_11 ph_11 ps_11 sp1_11 f1a_11 f1b_11 f1c_11 f2x_11 f2y_11 sp3_7 f4_6 pv_5 f5_0)
                | (go_at_call 16; (with_reducible refine (qAdd _ _ (1 + 1 + 2) (1 + 1 + 2) _ _ _ (by omega) (by omega) f5_1.q f6_0.q).mono ?_); rintro e w17 ⟨m7, o7, n7, c7, p7, k7, d7, rfl, f7_0, hb17⟩; have hB_13 := hB_12.trans (hb17.mono hB_12.size); have ph_13 := ph_12.below hb17; have ps_13 := ps_12.below hb17; have sp1_13 := sp1_12.below hb17; have f1a_13 := f1a_12.below hb17; have f1b_13 := f1b_12.below hb17; have f1c_13 := f1c_12.below hb17; have f2x_13 := f2x_12.below hb17; have f2y_13 := f2y_12.below hb17; have sp3_9 := sp3_8.below hb17; have f4_8 := f4_7.below hb17; have pv_7 := pv_6.below hb17; have f5_2 := f5_1.below hb17; have f6_1 := f6_0.below hb17; clear hb17 hB_12 ph_12 ps_12 sp1_12 f1a_12 f1b_12 f1c_12 f2x_12 f2y_12 sp3_8 f4_7 pv_6 f5_1 f6_0)
                | (go_at_call 22; (with_reducible refine (qSub _ _ ((1 + 1 + 2) + (1 + 1 + 2) + 2) 1 _ _ _ (by omega) (by omega) f7_0.q f1c_13.q).mono ?_); rintro e w18 ⟨m8, o8, n8, c8, p8, k8, d8, rfl, f8_0, hb18⟩; have hB_14 := hB_13.trans (hb18.mono hB_13.size); have ph_14 := ph_13.below hb18; have ps_14 := ps_13.below hb18; have sp1_14 := sp1_13.below hb18; have f1a_14 := f1a_13.below hb18; have f1b_14 := f1b_13.below hb18; have f1c_14 := f1c_13.below hb18; have f2x_14 := f2x_13.below hb18; have f2y_14 := f2y_13.below hb18; have sp3_10 := sp3_9.below hb18; have f4_9 := f4_8.below hb18; have pv_8 := pv_7.below hb18; have f5_3 := f5_2.below hb18; have f6_2 := f6_1.below hb18; have f7_1 := f7_0.below hb18; clear hb18 hB_13 ph_13 ps_13 sp1_13 f1a_13 f1b_13 f1c_13 f2x_13 f2y_13 sp3_9 f4_8 pv_7 f5_2 f6_1 f7_0)
                | (go_at_call 15; (with_reducible refine (qSame_yes _ _ (((1 + 1 + 2) + (1 + 1 + 2) + 2) + 1 + 2) ((1 + 1 + 2) + (1 + 1 + 2) + 2 + 1 + 2) _ _ _ (by omega) (by omega) f4_9.q f8_0.q rfl).mono ?_); rintro e w19 ⟨rfl, hb19⟩; have hB_15 := hB_14.trans (hb19.mono hB_14.size); have ph_15 := ph_14.below hb19; have ps_15 := ps_14.below hb19; have sp1_15 := sp1_14.below hb19; have f1a_15 := f1a_14.below hb19; have f1b_15 := f1b_14.below hb19; have f1c_15 := f1c_14.below hb19; have f2x_15 := f2x_14.below hb19; have f2y_15 := f2y_14.below hb19; have sp3_11 := sp3_10.below hb19; have f4_10 := f4_9.below hb19; have pv_9 := pv_8.below hb19; have f5_4 := f5_3.below hb19; have f6_3 := f6_2.below hb19; have f7_2 := f7_1.below hb19; have f8_1 := f8_0.below hb19; clear hb19 hB_14 ph_14 ps_14 sp1_14 f1a_14 f1b_14 f1c_14 f2x_14 f2y_14 sp3_10 f4_9 pv_8 f5_3 f6_2 f7_1 f8_0))
            go_wp2
            go_ret
            exact ⟨rfl, hB_15⟩
          · have HS := Lib.hid hs
            have e1 : decide (sc ≤ 0) = false := by simp; omega
            have hB_7 := hB_6.drew'
            have ph_7 := ph_6.drew
            have ps_7 := ps_6.drew
            have sp1_7 := sp1_6.drew
            have f1a_7 := f1a_6.drew
            have f1b_7 := f1b_6.drew
            have f1c_7 := f1c_6.drew
            have f2x_7 := f2x_6.drew
            have f2y_7 := f2y_6.drew
            have sp3_3 := sp3_2.drew
            have f4_2 := f4_1.drew
            have pv_1 := pv_0.drew
            clear hB_6 ph_6 ps_6 sp1_6 f1a_6 f1b_6 f1c_6 f2x_6 f2y_6 sp3_2 f4_1 pv_0
            go_region_held3 (fun w' => w'.cell? ⟨w.heap.size, 0, none⟩ = some (.bool m1a) ∧ w'.cell? ⟨w.heap.size, 1, none⟩ = some (.slice o1a n1a c1a) ∧ w'.cell? ⟨w.heap.size, 2, none⟩ = some (.slice p1a k1a d1a) ∧ w'.cell? ⟨w.heap.size, 3, none⟩ = some (.bool m1b) ∧ w'.cell? ⟨w.heap.size, 4, none⟩ = some (.slice o1b n1b c1b) ∧ w'.cell? ⟨w.heap.size, 5, none⟩ = some (.slice p1b k1b d1b) ∧ w'.cell? ⟨w.heap.size, 6, none⟩ = some (.bool m1c) ∧ w'.cell? ⟨w.heap.size, 7, none⟩ = some (.slice o1c n1c c1c) ∧ w'.cell? ⟨w.heap.size, 8, none⟩ = some (.slice p1c k1c d1c) ∧ w'.cell? ⟨w.heap.size + 1, 0, none⟩ = some (.bool m2x) ∧ w'.cell? ⟨w.heap.size + 1, 1, none⟩ = some (.slice o2x n2x c2x) ∧ w'.cell? ⟨w.heap.size + 1, 2, none⟩ = some (.slice p2x k2x d2x) ∧ w'.cell? ⟨w.heap.size + 1, 3, none⟩ = some (.bool m2y) ∧ w'.cell? ⟨w.heap.size + 1, 4, none⟩ = some (.slice o2y n2y c2y) ∧ w'.cell? ⟨w.heap.size + 1, 5, none⟩ = some (.slice p2y k2y d2y) ∧ w'.cell? ⟨w10.heap.size, 0, none⟩ = some (.bool m4) ∧ w'.cell? ⟨w10.heap.size, 1, none⟩ = some (.slice o4 n4 c4) ∧ w'.cell? ⟨w10.heap.size, 2, none⟩ = some (.slice p4 k4 d4))
              (first | with_reducible exact ⟨ph_7.c0, ph_7.c1, ph_7.c2, ph_7.c3, ph_7.c4, ph_7.c5, ph_7.c6, ph_7.c7, ph_7.c8, ps_7.c0, ps_7.c1, ps_7.c2, ps_7.c3, ps_7.c4, ps_7.c5, pv_1.c0, pv_1.c1, pv_1.c2⟩ | with_reducible exact ⟨ph_8.c0, ph_8.c1, ph_8.c2, ph_8.c3, ph_8.c4, ph_8.c5, ph_8.c6, ph_8.c7, ph_8.c8, ps_8.c0, ps_8.c1, ps_8.c2, ps_8.c3, ps_8.c4, ps_8.c5, pv_2.c0, pv_2.c1, pv_2.c2⟩ | with_reducible exact ⟨ph_9.c0, ph_9.c1, ph_9.c2, ph_9.c3, ph_9.c4, ph_9.c5, ph_9.c6, ph_9.c7, ph_9.c8, ps_9.c0, ps_9.c1, ps_9.c2, ps_9.c3, ps_9.c4, ps_9.c5, pv_3.c0, pv_3.c1, pv_3.c2⟩ | with_reducible exact ⟨ph_10.c0, ph_10.c1, ph_10.c2, ph_10.c3, ph_10.c4, ph_10.c5, ph_10.c6, ph_10.c7, ph_10.c8, ps_10.c0, ps_10.c1, ps_10.c2, ps_10.c3, ps_10.c4, ps_10.c5, pv_4.c0, pv_4.c1, pv_4.c2⟩ | with_reducible exact ⟨ph_11.c0, ph_11.c1, ph_11.c2, ph_11.c3, ph_11.c4, ph_11.c5, ph_11.c6, ph_11.c7, ph_11.c8, ps_11.c0, ps_11.c1, ps_11.c2, ps_11.c3, ps_11.c4, ps_11.c5, pv_5.c0, pv_5.c1, pv_5.c2⟩ | with_reducible exact ⟨ph_12.c0, ph_12.c1, ph_12.c2, ph_12.c3, ph_12.c4, ph_12.c5, ph_12.c6, ph_12.c7, ph_12.c8, ps_12.c0, ps_12.c1, ps_12.c2, ps_12.c3, ps_12.c4, ps_12.c5, pv_6.c0, pv_6.c1, pv_6.c2⟩ | with_reducible exact ⟨ph_13.c0, ph_13.c1, ph_13.c2, ph_13.c3, ph_13.c4, ph_13.c5, ph_13.c6, ph_13.c7, ph_13.c8, ps_13.c0, ps_13.c1, ps_13.c2, ps_13.c3, ps_13.c4, ps_13.c5, pv_7.c0, pv_7.c1, pv_7.c2⟩ | with_reducible exact ⟨ph_14.c0, ph_14.c1, ph_14.c2, ph_14.c3, ph_14.c4, ph_14.c5, ph_14.c6, ph_14.c7, ph_14.c8, ps_14.c0, ps_14.c1, ps_14.c2, ps_14.c3, ps_14.c4, ps_14.c5, pv_8.c0, pv_8.c1, pv_8.c2⟩ | with_reducible exact ⟨ph_15.c0, ph_15.c1, ph_15.c2, ph_15.c3, ph_15.c4, ph_15.c5, ph_15.c6, ph_15.c7, ph_15.c8, ps_15.c0, ps_15.c1, ps_15.c2, ps_15.c3, ps_15.c4, ps_15.c5, pv_9.c0, pv_9.c1, pv_9.c2⟩ | fail)
              (first
                | (go_at_call 20; (with_reducible refine (cWithin_any ao3 n3 ac3 (clipQ (tameQ Xha Dha) (tameQ Xhb Dhb) (tameQ Xhc Dhc) P) 1 7 _ _ false _ HN3.out (by omega) (by omega) (by omega) sp3_3 f2x_7.q f2y_7.q ⟨fun h => absurd (HLE.out.2 (HIN.out.1 h).2) (by have := HS.out; omega), fun h => by cases h⟩).mono ?_); rintro e w12 ⟨rfl, hb12⟩; have hB_8 := hB_7.trans (hb12.mono hB_7.size); have ph_8 := ph_7.below hb12; have ps_8 := ps_7.below hb12; have sp1_8 := sp1_7.below hb12; have f1a_8 := f1a_7.below hb12; have f1b_8 := f1b_7.below hb12; have f1c_8 := f1c_7.below hb12; have f2x_8 := f2x_7.below hb12; have f2y_8 := f2y_7.below hb12; have sp3_4 := sp3_3.below hb12; have f4_3 := f4_2.below hb12; have pv_2 := pv_1.below hb12; clear hb12 hB_7 ph_7 ps_7 sp1_7 f1a_7 f1b_7 f1c_7 f2x_7 f2y_7 sp3_3 f4_2 pv_1)
                | (go_at_call 20; (with_reducible refine (cWithin_any po n0 pc P 1 7 _ _ true _ HPN.out (by omega) (by omega) (by omega) sp1_8 f2x_8.q f2y_8.q ⟨fun _ => rfl, fun _ => HPI.out⟩).mono ?_); rintro e w13 ⟨rfl, hb13⟩; have hB_9 := hB_8.trans (hb13.mono hB_8.size); have ph_9 := ph_8.below hb13; have ps_9 := ps_8.below hb13; have sp1_9 := sp1_8.below hb13; have f1a_9 := f1a_8.below hb13; have f1b_9 := f1b_8.below hb13; have f1c_9 := f1c_8.below hb13; have f2x_9 := f2x_8.below hb13; have f2y_9 := f2y_8.below hb13; have sp3_5 := sp3_4.below hb13; have f4_4 := f4_3.below hb13; have pv_3 := pv_2.below hb13; clear hb13 hB_8 ph_8 ps_8 sp1_8 f1a_8 f1b_8 f1c_8 f2x_8 f2y_8 sp3_4 f4_3 pv_2)
                | (go_at_call 18; (with_reducible refine (qSign _ (((1 + 1 + 2) + (1 + 1 + 2) + 2) + 1 + 2) _ _ (by omega) f4_4.q sc HSC.out).mono ?_); rintro e w14 ⟨rfl, hb14⟩; have hB_10 := hB_9.trans (hb14.mono hB_9.size); have ph_10 := ph_9.below hb14; have ps_10 := ps_9.below hb14; have sp1_10 := sp1_9.below hb14; have f1a_10 := f1a_9.below hb14; have f1b_10 := f1b_9.below hb14; have f1c_10 := f1c_9.below hb14; have f2x_10 := f2x_9.below hb14; have f2y_10 := f2y_9.below hb14; have sp3_6 := sp3_5.below hb14; have f4_5 := f4_4.below hb14; have pv_4 := pv_3.below hb14; clear hb14 hB_9 ph_9 ps_9 sp1_9 f1a_9 f1b_9 f1c_9 f2x_9 f2y_9 sp3_5 f4_4 pv_3)
                | (go_at_call 23; (with_reducible refine (qMul _ _ 1 1 _ _ _ (by omega) (by omega) f1a_10.q f2x_10.q).mono ?_); rintro e w15 ⟨m5, o5, n5, c5, p5, k5, d5, rfl, f5_0, hb15⟩; have hB_11 := hB_10.trans (hb15.mono hB_10.size); have ph_11 := ph_10.below hb15; have ps_11 := ps_10.below hb15; have sp1_11 := sp1_10.below hb15; have f1a_11 := f1a_10.below hb15; have f1b_11 := f1b_10.below hb15; have f1c_11 := f1c_10.below hb15; have f2x_11 := f2x_10.below hb15; have f2y_11 := f2y_10.below hb15; have sp3_7 := sp3_6.below hb15; have f4_6 := f4_5.below hb15; have pv_5 := pv_4.below hb15; clear hb15 hB_10 ph_10 ps_10 sp1_10 f1a_10 f1b_10 f1c_10 f2x_10 f2y_10 sp3_6 f4_5 pv_4)
                | (go_at_call 23; (with_reducible refine (qMul _ _ 1 1 _ _ _ (by omega) (by omega) f1b_11.q f2y_11.q).mono ?_); rintro e w16 ⟨m6, o6, n6, c6, p6, k6, d6, rfl, f6_0, hb16⟩; have hB_12 := hB_11.trans (hb16.mono hB_11.size); have ph_12 := ph_11.below hb16; have ps_12 := ps_11.below hb16; have sp1_12 := sp1_11.below hb16; have f1a_12 := f1a_11.below hb16; have f1b_12 := f1b_11.below hb16; have f1c_12 := f1c_11.below hb16; have f2x_12 := f2x_11.below hb16; have f2y_12 := f2y_11.below hb16; have sp3_8 := sp3_7.below hb16; have f4_7 := f4_6.below hb16; have pv_6 := pv_5.below hb16; have f5_1 := f5_0.below hb16; clear hb16 hB_11 ph_11 ps_11 sp1_11 f1a_11 f1b_11 f1c_11 f2x_11 f2y_11 sp3_7 f4_6 pv_5 f5_0)
                | (go_at_call 16; (with_reducible refine (qAdd _ _ (1 + 1 + 2) (1 + 1 + 2) _ _ _ (by omega) (by omega) f5_1.q f6_0.q).mono ?_); rintro e w17 ⟨m7, o7, n7, c7, p7, k7, d7, rfl, f7_0, hb17⟩; have hB_13 := hB_12.trans (hb17.mono hB_12.size); have ph_13 := ph_12.below hb17; have ps_13 := ps_12.below hb17; have sp1_13 := sp1_12.below hb17; have f1a_13 := f1a_12.below hb17; have f1b_13 := f1b_12.below hb17; have f1c_13 := f1c_12.below hb17; have f2x_13 := f2x_12.below hb17; have f2y_13 := f2y_12.below hb17; have sp3_9 := sp3_8.below hb17; have f4_8 := f4_7.below hb17; have pv_7 := pv_6.below hb17; have f5_2 := f5_1.below hb17; have f6_1 := f6_0.below hb17; clear hb17 hB_12 ph_12 ps_12 sp1_12 f1a_12 f1b_12 f1c_12 f2x_12 f2y_12 sp3_8 f4_7 pv_6 f5_1 f6_0)
                | (go_at_call 22; (with_reducible refine (qSub _ _ ((1 + 1 + 2) + (1 + 1 + 2) + 2) 1 _ _ _ (by omega) (by omega) f7_0.q f1c_13.q).mono ?_); rintro e w18 ⟨m8, o8, n8, c8, p8, k8, d8, rfl, f8_0, hb18⟩; have hB_14 := hB_13.trans (hb18.mono hB_13.size); have ph_14 := ph_13.below hb18; have ps_14 := ps_13.below hb18; have sp1_14 := sp1_13.below hb18; have f1a_14 := f1a_13.below hb18; have f1b_14 := f1b_13.below hb18; have f1c_14 := f1c_13.below hb18; have f2x_14 := f2x_13.below hb18; have f2y_14 := f2y_13.below hb18; have sp3_10 := sp3_9.below hb18; have f4_9 := f4_8.below hb18; have pv_8 := pv_7.below hb18; have f5_3 := f5_2.below hb18; have f6_2 := f6_1.below hb18; have f7_1 := f7_0.below hb18; clear hb18 hB_13 ph_13 ps_13 sp1_13 f1a_13 f1b_13 f1c_13 f2x_13 f2y_13 sp3_9 f4_8 pv_7 f5_2 f6_1 f7_0)
                | (go_at_call 15; (with_reducible refine (qSame_yes _ _ (((1 + 1 + 2) + (1 + 1 + 2) + 2) + 1 + 2) ((1 + 1 + 2) + (1 + 1 + 2) + 2 + 1 + 2) _ _ _ (by omega) (by omega) f4_9.q f8_0.q rfl).mono ?_); rintro e w19 ⟨rfl, hb19⟩; have hB_15 := hB_14.trans (hb19.mono hB_14.size); have ph_15 := ph_14.below hb19; have ps_15 := ps_14.below hb19; have sp1_15 := sp1_14.below hb19; have f1a_15 := f1a_14.below hb19; have f1b_15 := f1b_14.below hb19; have f1c_15 := f1c_14.below hb19; have f2x_15 := f2x_14.below hb19; have f2y_15 := f2y_14.below hb19; have sp3_11 := sp3_10.below hb19; have f4_10 := f4_9.below hb19; have pv_9 := pv_8.below hb19; have f5_4 := f5_3.below hb19; have f6_3 := f6_2.below hb19; have f7_2 := f7_1.below hb19; have f8_1 := f8_0.below hb19; clear hb19 hB_14 ph_14 ps_14 sp1_14 f1a_14 f1b_14 f1c_14 f2x_14 f2y_14 sp3_10 f4_9 pv_8 f5_3 f6_2 f7_1 f8_0))
            go_wp2
            go_ret
            exact ⟨rfl, hB_15⟩
        · have HPI := Lib.hid hp; clear hp
          have hB_7 := hB_6.drew'
          have ph_7 := ph_6.drew
          have ps_7 := ps_6.drew
          have sp1_7 := sp1_6.drew
          have f1a_7 := f1a_6.drew
          have f1b_7 := f1b_6.drew
          have f1c_7 := f1c_6.drew
          have f2x_7 := f2x_6.drew
          have f2y_7 := f2y_6.drew
          have sp3_3 := sp3_2.drew
          have f4_2 := f4_1.drew
          have pv_1 := pv_0.drew
          refine wp_region_noPanic ?_
          refine wp_region_held_drew (S := fun w' => w'.cell? ⟨w.heap.size, 0, none⟩ = some (.bool m1a) ∧ w'.cell? ⟨w.heap.size, 1, none⟩ = some (.slice o1a n1a c1a) ∧ w'.cell? ⟨w.heap.size, 2, none⟩ = some (.slice p1a k1a d1a) ∧ w'.cell? ⟨w.heap.size, 3, none⟩ = some (.bool m1b) ∧ w'.cell? ⟨w.heap.size, 4, none⟩ = some (.slice o1b n1b c1b) ∧ w'.cell? ⟨w.heap.size, 5, none⟩ = some (.slice p1b k1b d1b) ∧ w'.cell? ⟨w.heap.size, 6, none⟩ = some (.bool m1c) ∧ w'.cell? ⟨w.heap.size, 7, none⟩ = some (.slice o1c n1c c1c) ∧ w'.cell? ⟨w.heap.size, 8, none⟩ = some (.slice p1c k1c d1c) ∧ w'.cell? ⟨w.heap.size + 1, 0, none⟩ = some (.bool m2x) ∧ w'.cell? ⟨w.heap.size + 1, 1, none⟩ = some (.slice o2x n2x c2x) ∧ w'.cell? ⟨w.heap.size + 1, 2, none⟩ = some (.slice p2x k2x d2x) ∧ w'.cell? ⟨w.heap.size + 1, 3, none⟩ = some (.bool m2y) ∧ w'.cell? ⟨w.heap.size + 1, 4, none⟩ = some (.slice o2y n2y c2y) ∧ w'.cell? ⟨w.heap.size + 1, 5, none⟩ = some (.slice p2y k2y d2y) ∧ w'.cell? ⟨w10.heap.size, 0, none⟩ = some (.bool m4) ∧ w'.cell? ⟨w10.heap.size, 1, none⟩ = some (.slice o4 n4 c4) ∧ w'.cell? ⟨w10.heap.size, 2, none⟩ = some (.slice p4 k4 d4)) (by kernel_rfl) (⟨ph_7.c0, ph_7.c1, ph_7.c2, ph_7.c3, ph_7.c4, ph_7.c5, ph_7.c6, ph_7.c7, ph_7.c8, ps_7.c0, ps_7.c1, ps_7.c2, ps_7.c3, ps_7.c4, ps_7.c5, pv_1.c0, pv_1.c1, pv_1.c2⟩) (fun hHeld => ?_)
          refine reg_take 0 ?_ ?_ ?_ (by kernel_rfl) (by kernel_rfl) (by kernel_rfl) (fun _ _ _ h => h) ?_ ?_ (by assumption) ?_
          rotate_left 2
          · simp only [List.getElem?_toArray, List.getElem?_cons_zero]; exact rfl
          · rfl
          · intro w hSw; (try dsimp only at hSw); go_simp; try with_reducible rfl
          try simp only [Act.put]
          try simp only [List.setIfInBounds_toArray, List.set_cons_zero, List.set_cons_succ]
          refine reg_take 1 ?_ ?_ ?_ (by kernel_rfl) (by kernel_rfl) (by kernel_rfl) (fun _ _ _ h => h) ?_ ?_ (by assumption) ?_
          rotate_left 2
          · simp only [List.getElem?_toArray, List.getElem?_cons_succ, List.getElem?_cons_zero]; exact rfl
          · rfl
          · intro w hSw; (try dsimp only at hSw); go_simp; try with_reducible rfl
          try simp only [Act.put]
          try simp only [List.setIfInBounds_toArray, List.set_cons_zero, List.set_cons_succ]
          refine reg_take 3 ?_ ?_ ?_ (by kernel_rfl) (by kernel_rfl) (by kernel_rfl) (fun _ _ _ h => h) ?_ ?_ (by assumption) ?_
          rotate_left 2
          · simp only [List.getElem?_toArray, List.getElem?_cons_succ, List.getElem?_cons_zero]; exact rfl
          · rfl
          · intro w hSw; (try dsimp only at hSw); go_simp; try with_reducible rfl
          try simp only [Act.put]
          try simp only [List.setIfInBounds_toArray, List.set_cons_zero, List.set_cons_succ]
          refine reg_take 4 ?_ ?_ ?_ (by kernel_rfl) (by kernel_rfl) (by kernel_rfl) (fun _ _ _ h => h) ?_ ?_ (by assumption) ?_
          rotate_left 2
          · simp only [List.getElem?_toArray, List.getElem?_cons_succ, List.getElem?_cons_zero]; exact rfl
          · rfl
          · intro w hSw; (try dsimp only at hSw); go_simp; try with_reducible rfl
          try simp only [Act.put]
          try simp only [List.setIfInBounds_toArray, List.set_cons_zero, List.set_cons_succ]
          refine reg_call 2 ?_ (by kernel_rfl) ?_ (fun K hK => ?_)
          rotate_left 1
          · simp only [List.getElem?_toArray, List.getElem?_cons_succ, List.getElem?_cons_zero]; exact rfl
          go_simp
          refine (cWithin_any ao3 n3 ac3 (clipQ (tameQ Xha Dha) (tameQ Xhb Dhb) (tameQ Xhc Dhc) P) 1 7 _ _ false _ HN3.out (by omega) (by omega) (by omega) sp3_3 f2x_7.q f2y_7.q ⟨fun h => absurd (HIN.out.1 h).1 HPI.out, fun h => by cases h⟩).mono ?_
          rintro e w12 ⟨rfl, hb12⟩
          have hB_8 := hB_7.trans (hb12.mono hB_7.size)
          have ph_8 := ph_7.below hb12
          have ps_8 := ps_7.below hb12
          have sp1_8 := sp1_7.below hb12
          have f1a_8 := f1a_7.below hb12
          have f1b_8 := f1b_7.below hb12
          have f1c_8 := f1c_7.below hb12
          have f2x_8 := f2x_7.below hb12
          have f2y_8 := f2y_7.below hb12
          have sp3_4 := sp3_3.below hb12
          have f4_3 := f4_2.below hb12
          have pv_2 := pv_1.below hb12
          clear hb12 hB_7 ph_7 ps_7 sp1_7 f1a_7 f1b_7 f1c_7 f2x_7 f2y_7 sp3_3 f4_2 pv_1
          go_wp2_with fail
          refine hK.out _ _ ⟨ph_8.c0, ph_8.c1, ph_8.c2, ph_8.c3, ph_8.c4, ph_8.c5, ph_8.c6, ph_8.c7, ph_8.c8, ps_8.c0, ps_8.c1, ps_8.c2, ps_8.c3, ps_8.c4, ps_8.c5, pv_2.c0, pv_2.c1, pv_2.c2⟩ (fun hHeld => ?_)
          clear hK K
          try simp only [Act.put]
          try simp only [List.setIfInBounds_toArray, List.set_cons_zero, List.set_cons_succ]
          refine reg_call 5 ?_ (by kernel_rfl) ?_ (fun K hK => ?_)
          rotate_left 1
          · simp only [List.getElem?_toArray, List.getElem?_cons_succ, List.getElem?_cons_zero]; exact rfl
          go_simp
          refine (cWithin_any po n0 pc P 1 7 _ _ false _ HPN.out (by omega) (by omega) (by omega) sp1_8 f2x_8.q f2y_8.q ⟨fun h => absurd h HPI.out, fun h => by cases h⟩).mono ?_
          rintro e w13 ⟨rfl, hb13⟩
          have hB_9 := hB_8.trans (hb13.mono hB_8.size)
          have ph_9 := ph_8.below hb13
          have ps_9 := ps_8.below hb13
          have sp1_9 := sp1_8.below hb13
          have f1a_9 := f1a_8.below hb13
          have f1b_9 := f1b_8.below hb13
          have f1c_9 := f1c_8.below hb13
          have f2x_9 := f2x_8.below hb13
          have f2y_9 := f2y_8.below hb13
          have sp3_5 := sp3_4.below hb13
          have f4_4 := f4_3.below hb13
          have pv_3 := pv_2.below hb13
          clear hb13 hB_8 ph_8 ps_8 sp1_8 f1a_8 f1b_8 f1c_8 f2x_8 f2y_8 sp3_4 f4_3 pv_2
          go_wp2_with fail
          refine hK.out _ _ ⟨ph_9.c0, ph_9.c1, ph_9.c2, ph_9.c3, ph_9.c4, ph_9.c5, ph_9.c6, ph_9.c7, ph_9.c8, ps_9.c0, ps_9.c1, ps_9.c2, ps_9.c3, ps_9.c4, ps_9.c5, pv_3.c0, pv_3.c1, pv_3.c2⟩ (fun hHeld => ?_)
          clear hK K
          try simp only [Act.put]
          try simp only [List.setIfInBounds_toArray, List.set_cons_zero, List.set_cons_succ]
          refine reg_take 6 ?_ ?_ ?_ (by kernel_rfl) (by kernel_rfl) (by kernel_rfl) (fun _ _ _ h => h) ?_ ?_ (by assumption) ?_
          rotate_left 2
          · simp only [List.getElem?_toArray, List.getElem?_cons_succ, List.getElem?_cons_zero]; exact rfl
          · rfl
          · intro w hSw; (try dsimp only at hSw); go_simp; try with_reducible rfl
          try simp only [Act.put]
          try simp only [List.setIfInBounds_toArray, List.set_cons_zero, List.set_cons_succ]
          refine reg_skip 7 ?_ ?_ (by kernel_rfl) (by kernel_rfl) (by kernel_rfl) (fun _ _ _ h => h) ?_ (by assumption) ?_
          rotate_left 1
          · simp only [List.getElem?_toArray, List.getElem?_cons_succ, List.getElem?_cons_zero]; exact rfl
          · rfl
          try simp only [Act.put]
          try simp only [List.setIfInBounds_toArray, List.set_cons_zero, List.set_cons_succ]
          refine reg_skip 8 ?_ ?_ (by kernel_rfl) (by kernel_rfl) (by kernel_rfl) (fun _ _ _ h => h) ?_ (by assumption) ?_
          rotate_left 1
          · simp only [List.getElem?_toArray, List.getElem?_cons_succ, List.getElem?_cons_zero]; exact rfl
          · rfl
          try simp only [Act.put]
          try simp only [List.setIfInBounds_toArray, List.set_cons_zero, List.set_cons_succ]
          refine reg_skip 9 ?_ ?_ (by kernel_rfl) (by kernel_rfl) (by kernel_rfl) (fun _ _ _ h => h) ?_ (by assumption) ?_
          rotate_left 1
          · simp only [List.getElem?_toArray, List.getElem?_cons_succ, List.getElem?_cons_zero]; exact rfl
          · rfl
          try simp only [Act.put]
          try simp only [List.setIfInBounds_toArray, List.set_cons_zero, List.set_cons_succ]
          refine reg_take 10 ?_ ?_ ?_ (by kernel_rfl) (by kernel_rfl) (by kernel_rfl) (fun _ _ _ h => h) ?_ ?_ (by assumption) ?_
          rotate_left 2
          · simp only [List.getElem?_toArray, List.getElem?_cons_succ, List.getElem?_cons_zero]; exact rfl
          · rfl
          · intro w hSw; (try dsimp only at hSw); go_simp; try with_reducible rfl
          try simp only [Act.put]
          try simp only [List.setIfInBounds_toArray, List.set_cons_zero, List.set_cons_succ]
          refine reg_take 11 ?_ ?_ ?_ (by kernel_rfl) (by kernel_rfl) (by kernel_rfl) (fun _ _ _ h => h) ?_ ?_ (by assumption) ?_
          rotate_left 2
          · simp only [List.getElem?_toArray, List.getElem?_cons_succ, List.getElem?_cons_zero]; exact rfl
          · rfl
          · intro w hSw; (try dsimp only at hSw); go_simp; try with_reducible rfl
          try simp only [Act.put]
          try simp only [List.setIfInBounds_toArray, List.set_cons_zero, List.set_cons_succ]
          refine reg_take 12 ?_ ?_ ?_ (by kernel_rfl) (by kernel_rfl) (by kernel_rfl) (fun _ _ _ h => h) ?_ ?_ (by assumption) ?_
          rotate_left 2
          · simp only [List.getElem?_toArray, List.getElem?_cons_succ, List.getElem?_cons_zero]; exact rfl
          · rfl
          · intro w hSw; (try dsimp only at hSw); go_simp; try with_reducible rfl
          try simp only [Act.put]
          try simp only [List.setIfInBounds_toArray, List.set_cons_zero, List.set_cons_succ]
          refine reg_take 13 ?_ ?_ ?_ (by kernel_rfl) (by kernel_rfl) (by kernel_rfl) (fun _ _ _ h => h) ?_ ?_ (by assumption) ?_
          rotate_left 2
          · simp only [List.getElem?_toArray, List.getElem?_cons_succ, List.getElem?_cons_zero]; exact rfl
          · rfl
          · intro w hSw; (try dsimp only at hSw); go_simp; try with_reducible rfl
          try simp only [Act.put]
          try simp only [List.setIfInBounds_toArray, List.set_cons_zero, List.set_cons_succ]
          refine reg_take 14 ?_ ?_ ?_ (by kernel_rfl) (by kernel_rfl) (by kernel_rfl) (fun _ _ _ h => h) ?_ ?_ (by assumption) ?_
          rotate_left 2
          · simp only [List.getElem?_toArray, List.getElem?_cons_succ, List.getElem?_cons_zero]; exact rfl
          · rfl
          · intro w hSw; (try dsimp only at hSw); go_simp; try with_reducible rfl
          try simp only [Act.put]
          try simp only [List.setIfInBounds_toArray, List.set_cons_zero, List.set_cons_succ]
          refine reg_take 15 ?_ ?_ ?_ (by kernel_rfl) (by kernel_rfl) (by kernel_rfl) (fun _ _ _ h => h) ?_ ?_ (by assumption) ?_
          rotate_left 2
          · simp only [List.getElem?_toArray, List.getElem?_cons_succ, List.getElem?_cons_zero]; exact rfl
          · rfl
          · intro w hSw; (try dsimp only at hSw); go_simp; try with_reducible rfl
          try simp only [Act.put]
          try simp only [List.setIfInBounds_toArray, List.set_cons_zero, List.set_cons_succ]
          refine reg_take 16 ?_ ?_ ?_ (by kernel_rfl) (by kernel_rfl) (by kernel_rfl) (fun _ _ _ h => h) ?_ ?_ (by assumption) ?_
          rotate_left 2
          · simp only [List.getElem?_toArray, List.getElem?_cons_succ, List.getElem?_cons_zero]; exact rfl
          · rfl
          · intro w hSw; (try dsimp only at hSw); go_simp; try with_reducible rfl
          try simp only [Act.put]
          try simp only [List.setIfInBounds_toArray, List.set_cons_zero, List.set_cons_succ]
          refine reg_take 17 ?_ ?_ ?_ (by kernel_rfl) (by kernel_rfl) (by kernel_rfl) (fun _ _ _ h => h) ?_ ?_ (by assumption) ?_
          rotate_left 2
          · simp only [List.getElem?_toArray, List.getElem?_cons_succ, List.getElem?_cons_zero]; exact rfl
          · rfl
          · intro w hSw; (try dsimp only at hSw); go_simp; try with_reducible rfl
          try simp only [Act.put]
          try simp only [List.setIfInBounds_toArray, List.set_cons_zero, List.set_cons_succ]
          refine reg_take 19 ?_ ?_ ?_ (by kernel_rfl) (by kernel_rfl) (by kernel_rfl) (fun _ _ _ h => h) ?_ ?_ (by assumption) ?_
          rotate_left 2
          · simp only [List.getElem?_toArray, List.getElem?_cons_succ, List.getElem?_cons_zero]; exact rfl
          · rfl
          · intro w hSw; (try dsimp only at hSw); go_simp; try with_reducible rfl
          try simp only [Act.put]
          try simp only [List.setIfInBounds_toArray, List.set_cons_zero, List.set_cons_succ]
          refine reg_take 20 ?_ ?_ ?_ (by kernel_rfl) (by kernel_rfl) (by kernel_rfl) (fun _ _ _ h => h) ?_ ?_ (by assumption) ?_
          rotate_left 2
          · simp only [List.getElem?_toArray, List.getElem?_cons_succ, List.getElem?_cons_zero]; exact rfl
          · rfl
          · intro w hSw; (try dsimp only at hSw); go_simp; try with_reducible rfl
          try simp only [Act.put]
          try simp only [List.setIfInBounds_toArray, List.set_cons_zero, List.set_cons_succ]
          refine reg_take 21 ?_ ?_ ?_ (by kernel_rfl) (by kernel_rfl) (by kernel_rfl) (fun _ _ _ h => h) ?_ ?_ (by assumption) ?_
          rotate_left 2
          · simp only [List.getElem?_toArray, List.getElem?_cons_succ, List.getElem?_cons_zero]; exact rfl
          · rfl
          · intro w hSw; (try dsimp only at hSw); go_simp; try with_reducible rfl
          try simp only [Act.put]
          try simp only [List.setIfInBounds_toArray, List.set_cons_zero, List.set_cons_succ]
          refine reg_take 22 ?_ ?_ ?_ (by kernel_rfl) (by kernel_rfl) (by kernel_rfl) (fun _ _ _ h => h) ?_ ?_ (by assumption) ?_
          rotate_left 2
          · simp only [List.getElem?_toArray, List.getElem?_cons_succ, List.getElem?_cons_zero]; exact rfl
          · rfl
          · intro w hSw; (try dsimp only at hSw); go_simp; try with_reducible rfl
          try simp only [Act.put]
          try simp only [List.setIfInBounds_toArray, List.set_cons_zero, List.set_cons_succ]
          refine reg_take 25 ?_ ?_ ?_ (by kernel_rfl) (by kernel_rfl) (by kernel_rfl) (fun _ _ _ h => h) ?_ ?_ (by assumption) ?_
          rotate_left 2
          · simp only [List.getElem?_toArray, List.getElem?_cons_succ, List.getElem?_cons_zero]; exact rfl
          · rfl
          · intro w hSw; (try dsimp only at hSw); go_simp; try with_reducible rfl
          try simp only [Act.put]
          try simp only [List.setIfInBounds_toArray, List.set_cons_zero, List.set_cons_succ]
          refine reg_take 26 ?_ ?_ ?_ (by kernel_rfl) (by kernel_rfl) (by kernel_rfl) (fun _ _ _ h => h) ?_ ?_ (by assumption) ?_
          rotate_left 2
          · simp only [List.getElem?_toArray, List.getElem?_cons_succ, List.getElem?_cons_zero]; exact rfl
          · rfl
          · intro w hSw; (try dsimp only at hSw); go_simp; try with_reducible rfl
          try simp only [Act.put]
          try simp only [List.setIfInBounds_toArray, List.set_cons_zero, List.set_cons_succ]
          refine reg_call 18 ?_ (by kernel_rfl) ?_ (fun K hK => ?_)
          rotate_left 1
          · simp only [List.getElem?_toArray, List.getElem?_cons_succ, List.getElem?_cons_zero]; exact rfl
          go_simp
          refine (qMul _ _ 1 1 _ _ _ (by omega) (by omega) f1a_9.q f2x_9.q).mono ?_
          rintro e w14 ⟨m5, o5, n5, c5, p5, k5, d5, rfl, f5_0, hb14⟩
          have hB_10 := hB_9.trans (hb14.mono hB_9.size)
          have ph_10 := ph_9.below hb14
          have ps_10 := ps_9.below hb14
          have sp1_10 := sp1_9.below hb14
          have f1a_10 := f1a_9.below hb14
          have f1b_10 := f1b_9.below hb14
          have f1c_10 := f1c_9.below hb14
          have f2x_10 := f2x_9.below hb14
          have f2y_10 := f2y_9.below hb14
          have sp3_6 := sp3_5.below hb14
          have f4_5 := f4_4.below hb14
          have pv_4 := pv_3.below hb14
          clear hb14 hB_9 ph_9 ps_9 sp1_9 f1a_9 f1b_9 f1c_9 f2x_9 f2y_9 sp3_5 f4_4 pv_3
          go_wp2_with fail
          refine hK.out _ _ ⟨ph_10.c0, ph_10.c1, ph_10.c2, ph_10.c3, ph_10.c4, ph_10.c5, ph_10.c6, ph_10.c7, ph_10.c8, ps_10.c0, ps_10.c1, ps_10.c2, ps_10.c3, ps_10.c4, ps_10.c5, pv_4.c0, pv_4.c1, pv_4.c2⟩ (fun hHeld => ?_)
          clear hK K
          try simp only [Act.put]
          try simp only [List.setIfInBounds_toArray, List.set_cons_zero, List.set_cons_succ]
          refine reg_call 23 ?_ (by kernel_rfl) ?_ (fun K hK => ?_)
          rotate_left 1
          · simp only [List.getElem?_toArray, List.getElem?_cons_succ, List.getElem?_cons_zero]; exact rfl
          go_simp
          refine (qMul _ _ 1 1 _ _ _ (by omega) (by omega) f1b_10.q f2y_10.q).mono ?_
          rintro e w15 ⟨m6, o6, n6, c6, p6, k6, d6, rfl, f6_0, hb15⟩
          have hB_11 := hB_10.trans (hb15.mono hB_10.size)
          have ph_11 := ph_10.below hb15
          have ps_11 := ps_10.below hb15
          have sp1_11 := sp1_10.below hb15
          have f1a_11 := f1a_10.below hb15
          have f1b_11 := f1b_10.below hb15
          have f1c_11 := f1c_10.below hb15
          have f2x_11 := f2x_10.below hb15
          have f2y_11 := f2y_10.below hb15
          have sp3_7 := sp3_6.below hb15
          have f4_6 := f4_5.below hb15
          have pv_5 := pv_4.below hb15
          have f5_1 := f5_0.below hb15
          clear hb15 hB_10 ph_10 ps_10 sp1_10 f1a_10 f1b_10 f1c_10 f2x_10 f2y_10 sp3_6 f4_5 pv_4 f5_0
          go_wp2_with fail
          refine hK.out _ _ ⟨ph_11.c0, ph_11.c1, ph_11.c2, ph_11.c3, ph_11.c4, ph_11.c5, ph_11.c6, ph_11.c7, ph_11.c8, ps_11.c0, ps_11.c1, ps_11.c2, ps_11.c3, ps_11.c4, ps_11.c5, pv_5.c0, pv_5.c1, pv_5.c2⟩ (fun hHeld => ?_)
          clear hK K
          try simp only [Act.put]
          try simp only [List.setIfInBounds_toArray, List.set_cons_zero, List.set_cons_succ]
          refine reg_call 24 ?_ (by kernel_rfl) ?_ (fun K hK => ?_)
          rotate_left 1
          · simp only [List.getElem?_toArray, List.getElem?_cons_succ, List.getElem?_cons_zero]; exact rfl
          go_simp
          refine (qAdd _ _ (1 + 1 + 2) (1 + 1 + 2) _ _ _ (by omega) (by omega) f5_1.q f6_0.q).mono ?_
          rintro e w16 ⟨m7, o7, n7, c7, p7, k7, d7, rfl, f7_0, hb16⟩
          have hB_12 := hB_11.trans (hb16.mono hB_11.size)
          have ph_12 := ph_11.below hb16
          have ps_12 := ps_11.below hb16
          have sp1_12 := sp1_11.below hb16
          have f1a_12 := f1a_11.below hb16
          have f1b_12 := f1b_11.below hb16
          have f1c_12 := f1c_11.below hb16
          have f2x_12 := f2x_11.below hb16
          have f2y_12 := f2y_11.below hb16
          have sp3_8 := sp3_7.below hb16
          have f4_7 := f4_6.below hb16
          have pv_6 := pv_5.below hb16
          have f5_2 := f5_1.below hb16
          have f6_1 := f6_0.below hb16
          clear hb16 hB_11 ph_11 ps_11 sp1_11 f1a_11 f1b_11 f1c_11 f2x_11 f2y_11 sp3_7 f4_6 pv_5 f5_1 f6_0
          go_wp2_with fail
          refine hK.out _ _ ⟨ph_12.c0, ph_12.c1, ph_12.c2, ph_12.c3, ph_12.c4, ph_12.c5, ph_12.c6, ph_12.c7, ph_12.c8, ps_12.c0, ps_12.c1, ps_12.c2, ps_12.c3, ps_12.c4, ps_12.c5, pv_6.c0, pv_6.c1, pv_6.c2⟩ (fun hHeld => ?_)
          clear hK K
          try simp only [Act.put]
          try simp only [List.setIfInBounds_toArray, List.set_cons_zero, List.set_cons_succ]
          refine reg_call 27 ?_ (by kernel_rfl) ?_ (fun K hK => ?_)
          rotate_left 1
          · simp only [List.getElem?_toArray, List.getElem?_cons_succ, List.getElem?_cons_zero]; exact rfl
          go_simp
          refine (qSub _ _ ((1 + 1 + 2) + (1 + 1 + 2) + 2) 1 _ _ _ (by omega) (by omega) f7_0.q f1c_12.q).mono ?_
          rintro e w17 ⟨m8, o8, n8, c8, p8, k8, d8, rfl, f8_0, hb17⟩
          have hB_13 := hB_12.trans (hb17.mono hB_12.size)
          have ph_13 := ph_12.below hb17
          have ps_13 := ps_12.below hb17
          have sp1_13 := sp1_12.below hb17
          have f1a_13 := f1a_12.below hb17
          have f1b_13 := f1b_12.below hb17
          have f1c_13 := f1c_12.below hb17
          have f2x_13 := f2x_12.below hb17
          have f2y_13 := f2y_12.below hb17
          have sp3_9 := sp3_8.below hb17
          have f4_8 := f4_7.below hb17
          have pv_7 := pv_6.below hb17
          have f5_3 := f5_2.below hb17
          have f6_2 := f6_1.below hb17
          have f7_1 := f7_0.below hb17
          clear hb17 hB_12 ph_12 ps_12 sp1_12 f1a_12 f1b_12 f1c_12 f2x_12 f2y_12 sp3_8 f4_7 pv_6 f5_2 f6_1 f7_0
          go_wp2_with fail
          refine hK.out _ _ ⟨ph_13.c0, ph_13.c1, ph_13.c2, ph_13.c3, ph_13.c4, ph_13.c5, ph_13.c6, ph_13.c7, ph_13.c8, ps_13.c0, ps_13.c1, ps_13.c2, ps_13.c3, ps_13.c4, ps_13.c5, pv_7.c0, pv_7.c1, pv_7.c2⟩ (fun hHeld => ?_)
          clear hK K
          try simp only [Act.put]
          try simp only [List.setIfInBounds_toArray, List.set_cons_zero, List.set_cons_succ]
          refine reg_call 28 ?_ (by kernel_rfl) ?_ (fun K hK => ?_)
          rotate_left 1
          · simp only [List.getElem?_toArray, List.getElem?_cons_succ, List.getElem?_cons_zero]; exact rfl
          go_simp
          refine (qSame_yes _ _ (((1 + 1 + 2) + (1 + 1 + 2) + 2) + 1 + 2) ((1 + 1 + 2) + (1 + 1 + 2) + 2 + 1 + 2) _ _ _ (by omega) (by omega) f4_8.q f8_0.q rfl).mono ?_
          rintro e w18 ⟨rfl, hb18⟩
          have hB_14 := hB_13.trans (hb18.mono hB_13.size)
          have ph_14 := ph_13.below hb18
          have ps_14 := ps_13.below hb18
          have sp1_14 := sp1_13.below hb18
          have f1a_14 := f1a_13.below hb18
          have f1b_14 := f1b_13.below hb18
          have f1c_14 := f1c_13.below hb18
          have f2x_14 := f2x_13.below hb18
          have f2y_14 := f2y_13.below hb18
          have sp3_10 := sp3_9.below hb18
          have f4_9 := f4_8.below hb18
          have pv_8 := pv_7.below hb18
          have f5_4 := f5_3.below hb18
          have f6_3 := f6_2.below hb18
          have f7_2 := f7_1.below hb18
          have f8_1 := f8_0.below hb18
          clear hb18 hB_13 ph_13 ps_13 sp1_13 f1a_13 f1b_13 f1c_13 f2x_13 f2y_13 sp3_9 f4_8 pv_7 f5_3 f6_2 f7_1 f8_0
          go_wp2_with fail
          refine hK.out _ _ ⟨ph_14.c0, ph_14.c1, ph_14.c2, ph_14.c3, ph_14.c4, ph_14.c5, ph_14.c6, ph_14.c7, ph_14.c8, ps_14.c0, ps_14.c1, ps_14.c2, ps_14.c3, ps_14.c4, ps_14.c5, pv_8.c0, pv_8.c1, pv_8.c2⟩ (fun hHeld => ?_)
          clear hK K
          try simp only [Act.put]
          try simp only [List.setIfInBounds_toArray, List.set_cons_zero, List.set_cons_succ]
          refine reg_take 29 ?_ ?_ ?_ (by kernel_rfl) (by kernel_rfl) (by kernel_rfl) (fun _ _ _ h => h) ?_ ?_ (by assumption) ?_
          rotate_left 2
          · simp only [List.getElem?_toArray, List.getElem?_cons_succ, List.getElem?_cons_zero]; exact rfl
          · rfl
          · intro w hSw; (try dsimp only at hSw); go_simp; try with_reducible rfl
          try simp only [Act.put]
          try simp only [List.setIfInBounds_toArray, List.set_cons_zero, List.set_cons_succ]
          refine reg_take 30 ?_ ?_ ?_ (by kernel_rfl) (by kernel_rfl) (by kernel_rfl) (fun _ _ _ h => h) ?_ ?_ (by assumption) ?_
          rotate_left 2
          · simp only [List.getElem?_toArray, List.getElem?_cons_succ, List.getElem?_cons_zero]; exact rfl
          · rfl
          · intro w hSw; (try dsimp only at hSw); go_simp; try with_reducible rfl
          try simp only [Act.put]
          try simp only [List.setIfInBounds_toArray, List.set_cons_zero, List.set_cons_succ]
          refine wpAnyH_done (by kernel_rfl) ?_ _
          refine NoPanic.normal ?_
          go_wp2
          go_ret
          exact ⟨rfl, hB_14⟩
  · right
    refine ⟨?_, fun i hi => ?_⟩
    · clear zF F0 F1 F2 F3
      cases lb0
      · exact ready_of 0 _ rfl rfl (by kernel_rfl)
      cases lb1
      · exact ready_of 1 _ rfl rfl (by kernel_rfl)
      cases lb2
      · exact ready_of 2 _ rfl rfl (by kernel_rfl)
      cases lb3
      · exact ready_of 3 _ rfl rfl (by kernel_rfl)
      exact absurd ⟨rfl, rfl, rfl, rfl⟩ hL
    have hd : (lb0 = false ∧ i = 0) ∨ (lb1 = false ∧ lb0 = true ∧ i = 1) ∨ (lb2 = false ∧ i = 2) ∨ (lb3 = false ∧ lb2 = true ∧ lb1 = true ∧ i = 3) := by
      have hin := ready_lt hi
      obtain rfl | rfl | rfl | rfl | rfl | rfl : i = 0 ∨ i = 1 ∨ i = 2 ∨ i = 3 ∨ i = 4 ∨ i = 5 := by have hin' : i < 6 := hin; omega
      · exact .inl ⟨ready_off hi, rfl⟩
      · exact .inr (.inl ⟨ready_off hi, ready_dep (d := 0) hi (by kernel_rfl), rfl⟩)
      · exact .inr (.inr (.inl ⟨ready_off hi, rfl⟩))
      · exact .inr (.inr (.inr (⟨ready_off hi, ready_dep (d := 2) hi (by kernel_rfl), ready_dep (d := 1) hi (by kernel_rfl), rfl⟩)))
      · have k1 : lb1 = true := ready_dep (d := 1) hi (by kernel_rfl); have k3 : lb3 = true := ready_dep (d := 3) hi (by kernel_rfl); have k0 : lb0 = true := ready_dep (d := 0) hi (by kernel_rfl)
        have k2 := dp3_2 k3
        exact absurd ⟨k0, k1, k2, k3⟩ hL
      · exact absurd (ready_dep (d := 4) hi (by kernel_rfl)) (fun h => Bool.noConfusion (show false = true from h))
    clear hi hL
    rcases hd with ⟨rfl, rfl⟩ | ⟨rfl, rfl, rfl⟩ | ⟨rfl, rfl⟩ | ⟨rfl, rfl, rfl, rfl⟩
    · obtain ⟨-, -, -, -, -, -, ph_0, -, -, -⟩ := (hFFi _).1 zF
      obtain ⟨phe0, phe1, phe2, phe3, phe4, phe5, phe6, phe7, phe8, phe9, phe10, phe11, phe12, phe13, phe14, phe15, phe16, phe17⟩ := ph_0.open9
      refine step_of 0 ?_ ?_ (fun K hK => ?_)
      rotate_left 1
      · simp only [List.getElem?_toArray, List.getElem?_cons_zero]; exact rfl
      rw [HAi.out]
      try simp only [Act.put]
      try simp only [List.setIfInBounds_toArray, List.set_cons_zero, List.set_cons_succ]
      go_simp
      refine hK.out _ _ (sFi zF) ?_
      exact (hIVi _ _ _).2 (fun CC kk => kk true lb1 lb2 lb3 (.agg #[.bool ham, .slice hao han hac, .slice hap hak had, .bool hbm, .slice hbo hbn hbc, .slice hbp hbk hbd, .bool hcm, .slice hco hcn hcc, .slice hcp hck hcd]) lv1 lv2 lv3 m1a o1a n1a c1a p1a k1a d1a m1b o1b n1b c1b p1b k1b d1b m1c o1c n1c c1c p1c k1c d1c m2x o2x n2x c2x p2x k2x d2x m2y o2y n2y c2y p2y k2y d2y rfl (by simp only [HAi.out, Act.put, List.setIfInBounds_toArray, List.set_cons_zero, List.set_cons_succ]) zF (fun _ => rfl) (fun h => absurd (dp1_0 h) (by decide)) F2 (fun h => absurd (dp1_0 (dp3_1 h)) (by decide)) (fun _ => rfl) dp3_2 dp3_1)
    · obtain rfl := F0 rfl
      clear F0
      obtain ⟨-, fha_0, fhb_0, fhc_0, -, -, -, -, -, -⟩ := (hFFi _).1 zF
      refine step_of 1 ?_ ?_ (fun K hK => ?_)
      rotate_left 1
      · simp only [List.getElem?_toArray, List.getElem?_cons_succ, List.getElem?_cons_zero]; exact rfl
      rw [HAi.out]
      try simp only [Act.put]
      try simp only [List.setIfInBounds_toArray, List.set_cons_zero, List.set_cons_succ]
      go_simp
      refine (htame_any Lha Lhb Lhc Xha Xhb Xhc Dha Dhb Dhc _ fha_0 fhb_0 fhc_0).mono ?_
      rintro e w8 ⟨m1a, o1a, n1a, c1a, p1a, k1a, d1a, m1b, o1b, n1b, c1b, p1b, k1b, d1b, m1c, o1c, n1c, c1c, p1c, k1c, d1c, rfl, f1a_0, f1b_0, f1c_0, hb⟩
      go_wp2_with fail
      refine hK.out _ _ (sFi (cFi zF hb)) ?_
      exact (hIVi _ _ _).2 (fun CC kk => kk true true lb2 lb3 _ (.agg #[.bool m1a, .slice o1a n1a c1a, .slice p1a k1a d1a, .bool m1b, .slice o1b n1b c1b, .slice p1b k1b d1b, .bool m1c, .slice o1c n1c c1c, .slice p1c k1c d1c]) lv2 lv3 m1a o1a n1a c1a p1a k1a d1a m1b o1b n1b c1b p1b k1b d1b m1c o1c n1c c1c p1c k1c d1c m2x o2x n2x c2x p2x k2x d2x m2y o2y n2y c2y p2y k2y d2y rfl (by simp only [HAi.out, Act.put, List.setIfInBounds_toArray, List.set_cons_zero, List.set_cons_succ]) (cFi zF hb) (fun _ => rfl) (fun _ => ⟨rfl, f1a_0, f1b_0, f1c_0⟩) F2 (fun h => absurd (dp3_1 h) (by decide)) (fun _ => rfl) dp3_2 (fun _ => rfl))
    · obtain ⟨-, -, -, -, -, -, -, ps_0, -, -⟩ := (hFFi _).1 zF
      obtain ⟨pse0, pse1, pse2, pse3, pse4, pse5, pse6, pse7, pse8, pse9, pse10, pse11⟩ := ps_0.open6
      refine step_of 2 ?_ ?_ (fun K hK => ?_)
      rotate_left 1
      · simp only [List.getElem?_toArray, List.getElem?_cons_succ, List.getElem?_cons_zero]; exact rfl
      rw [HAi.out]
      try simp only [Act.put]
      try simp only [List.setIfInBounds_toArray, List.set_cons_zero, List.set_cons_succ]
      go_simp
      refine hK.out _ _ (sFi zF) ?_
      exact (hIVi _ _ _).2 (fun CC kk => kk lb0 lb1 true lb3 lv0 lv1 (.agg #[.bool sxm, .slice sxo sxn sxc, .slice sxp sxk sxd, .bool sym, .slice syo syn syc, .slice syp syk syd]) lv3 m1a o1a n1a c1a p1a k1a d1a m1b o1b n1b c1b p1b k1b d1b m1c o1c n1c c1c p1c k1c d1c m2x o2x n2x c2x p2x k2x d2x m2y o2y n2y c2y p2y k2y d2y rfl (by simp only [HAi.out, Act.put, List.setIfInBounds_toArray, List.set_cons_zero, List.set_cons_succ]) zF F0 F1 (fun _ => rfl) (fun h => absurd (dp3_2 h) (by decide)) dp1_0 (fun _ => rfl) dp3_1)
    · obtain rfl := dp1_0 rfl
      obtain rfl := F0 rfl
      clear F0
      obtain ⟨rfl, f1a_0, f1b_0, f1c_0⟩ := F1 rfl
      clear F1
      obtain rfl := F2 rfl
      clear F2
      obtain ⟨-, -, -, -, fsx_0, fsy_0, -, -, -, -⟩ := (hFFi _).1 zF
      refine step_of 3 ?_ ?_ (fun K hK => ?_)
      rotate_left 1
      · simp only [List.getElem?_toArray, List.getElem?_cons_succ, List.getElem?_cons_zero]; exact rfl
      rw [HAi.out]
      try simp only [Act.put]
      try simp only [List.setIfInBounds_toArray, List.set_cons_zero, List.set_cons_succ]
      go_simp
      refine (stame_any Lsx Lsy Xsx Xsy Dsx Dsy _ fsx_0 fsy_0).mono ?_
      rintro e w9 ⟨m2x, o2x, n2x, c2x, p2x, k2x, d2x, m2y, o2y, n2y, c2y, p2y, k2y, d2y, rfl, f2x_0, f2y_0, hb⟩
      go_wp2_with fail
      refine hK.out _ _ (sFi (cFi zF hb)) ?_
      exact (hIVi _ _ _).2 (fun CC kk => kk true true true true _ _ _ (.agg #[.bool m2x, .slice o2x n2x c2x, .slice p2x k2x d2x, .bool m2y, .slice o2y n2y c2y, .slice p2y k2y d2y]) m1a o1a n1a c1a p1a k1a d1a m1b o1b n1b c1b p1b k1b d1b m1c o1c n1c c1c p1c k1c d1c m2x o2x n2x c2x p2x k2x d2x m2y o2y n2y c2y p2y k2y d2y rfl (by simp only [HAi.out, Act.put, List.setIfInBounds_toArray, List.set_cons_zero, List.set_cons_succ]) (cFi zF hb) (fun _ => rfl) (fun _ => ⟨rfl, f1a_0.below hb, f1b_0.below hb, f1c_0.below hb⟩) (fun _ => rfl) (fun _ => ⟨rfl, f2x_0, f2y_0⟩) (fun _ => rfl) (fun _ => rfl) (fun _ => rfl))
end Go.Proofs.Ytdfabocecpcmcaa
