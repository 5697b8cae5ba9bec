/- What a slice of bytes reads as. -/
import Derived.Test.YtaaeghcacjmjeaaPartf
import Derived.Test.YtaaeghcacjmjeaaPartq
import Derived.Deep.Slices
namespace Go.Proofs.Ytaaeghcacjmjeaa
open Go.ChangeShapes Go.WideShapes Go.RowKit Go.MagM
theorem byteCell1 : Try.prog.cellsOf 5 = 1 := by kernel_rfl
theorem list1_of {l : List Value} (h : l.length = 1) : ∃ a, l = [a] := by
  match l, h with
  | [a], _ => exact ⟨a, rfl⟩
theorem byte_wf {x : Int} (h : (Lit.int .u8 x).wf = true) : 0 ≤ x ∧ x < 256 := by
  simp only [Lit.wf, IntKind.min, IntKind.max, IntKind.signed, IntKind.bits, Bool.and_eq_true] at h
  simp at h
  omega
set_option maxRecDepth 100000 in
/-- What a slice of bytes reads as. -/
theorem view_bytes {H : Type} {enc : TypeId × Value → H} {W : World} {b0 : Nat} {v : Value} {d : DataW H} {p : List MemPlace} (hv : Value.okWide Try.prog W .any b0 72 v)
    (h : DataW.Trod enc Try.prog W 0 (fun _ => true) true 72 v d p) :
    ∃ ao n c l, v = .slice ao n c ∧ l.length = n ∧ BytesAt W ao l := by
  obtain ⟨ao, n, c, rfl⟩ := okWide_slice Try.underlying72 hv
  obtain ⟨fuel, hf⟩ := h
  rcases Go.Deep.open_slice Try.underlying72 hf with ⟨hcs, _⟩ | ⟨a, len, cap, m, k, D, Pl, hcs, _, hlc, _, hm, _, hx⟩
  · simp [Value.cells] at hcs
    obtain ⟨rfl, rfl, rfl⟩ := hcs
    exact ⟨_, _, _, [], rfl, rfl, fun i x hi => by simp at hi⟩
  · simp [Value.cells] at hcs
    obtain ⟨rfl, rfl, rfl⟩ := hcs
    simp only [if_true] at hm
    subst hm
    obtain ⟨ab, ao, as'⟩ := a
    have hs : 0 < n → as' = none := fun h0 => by
      obtain ⟨cs', h1, _⟩ := hx 0 (by omega)
      rw [byteCell1] at h1
      obtain ⟨_, hlen, hcell⟩ := World.cells?_some h1
      obtain ⟨c0, rfl⟩ := list1_of hlen
      have hsp := World.cell?_spot (hcell 0 (by omega))
      simpa [Addr.add] using hsp
    have each : ∀ i, i < n → ∃ q : Int, as' = none ∧ W.cell? ⟨ab, ao + i, none⟩ = some (.int .u8 q) ∧ 0 ≤ q ∧ q < 256 := by
      intro i hi
      obtain ⟨cs', h1, h2⟩ := hx i (by omega)
      rw [byteCell1] at h1
      obtain ⟨_, hlen, hcell⟩ := World.cells?_some h1
      obtain ⟨c0, rfl⟩ := list1_of hlen
      obtain ⟨x, e0, _, w0⟩ := DataW.trod_int Try.underlying5 h2
      simp only [List.cons.injEq, and_true] at e0
      subst e0
      obtain rfl := hs (by omega)
      rw [addr_add] at hcell
      refine ⟨x, rfl, ?_, byte_wf w0⟩
      have := hcell 0 (by omega)
      rw [addr_add, Nat.mul_one] at this
      exact this
    obtain ⟨f, hfa⟩ := Go.Deep.choose_lt each
    refine ⟨_, _, _, (List.range n).map f, rfl, by simp, fun i x hi => ?_⟩
    have hin : i < n := by have := (List.getElem?_eq_some_iff.1 hi).1; simpa using this
    have hq : f i = x := by
      rw [List.getElem?_map, List.getElem?_range hin] at hi
      simpa using hi
    obtain ⟨rfl, h1, h2⟩ := hfa i hin
    rw [hq] at h1 h2
    exact ⟨ab, ao, rfl, h1, h2⟩
end Go.Proofs.Ytaaeghcacjmjeaa
