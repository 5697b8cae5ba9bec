/- From the form of the rows to the walks: what an argument reads as, the table in its variable, the end. -/
import Derived.Test.YtbfdianmbpfjmaaDoorRows
import Derived.Test.YtbfdianmbpfjmaaDoorLawA
import Derived.ProofKit
import Derived.ChangeVars
import Derived.JoinedOf
import Derived.RowKitTokens
import Derived.LaidLaws
import Derived.Lay
import Derived.Lib.LaidTab
namespace Go.Proofs.YtbfdianmbpfjmaaDoor
open Go.ChangeShapes Go.WideShapes Go.RowKit Go.MagM
theorem own0 : ownKnob Tryd.prog.godebug = none := by kernel_rfl
theorem laidOut0 : laidOutB Tryd.prog = true := by kernel_rfl
theorem cells42 : Tryd.prog.cellsOf 33 = 1 := by kernel_rfl
theorem tabName : Tryd.prog.globalNamed "math/bits.deBruijn64tab" = some 0 := by kernel_rfl
theorem tabType : (Tryd.prog.globals[0]?).map (·.type) = some 57 := by kernel_rfl
theorem tabUnder : Tryd.prog.underlying 57 = some (.array 64 5) := by kernel_rfl
theorem tabElem : Tryd.prog.underlying 5 = some (.int .u8) := by kernel_rfl
theorem tabCells1 : Tryd.prog.cellsOf 5 = 1 := by kernel_rfl
theorem tabCells : Tryd.prog.cellsOf 57 = 64 := by kernel_rfl
/-- The table as the rows list it. -/
theorem tabData : (Rows.laid_math_bits_deBruijn64tab : DataW Unit) = Lib.tabData .u8 (Lib.deBruijn64tab.map fun (x : Nat) => (x : Int)) := by kernel_rfl
def laid0 : List (String × DataW Unit) := [("math/bits.deBruijn64tab", Rows.laid_math_bits_deBruijn64tab)]
/-- What the condition on the table gives a walk. -/
theorem tab_of_laid {W : World} (h : laidMet Tryd.prog [("math/bits.deBruijn64tab", Rows.laid_math_bits_deBruijn64tab)] W) : Tab W := by
  rw [tabData] at h
  have ht := Lib.tabIs_of_head tabName tabType tabUnder tabElem tabCells1 tabCells h
  intro j hj
  have hl : (Lib.deBruijn64tab.map fun x => ((x : Nat) : Int)).length = 64 := by kernel_rfl
  have := ht.cell tabName j (by rw [hl]; exact hj)
  rw [this]
  have hl2 : j < Lib.deBruijn64tab.length := by have : Lib.deBruijn64tab.length = 64 := by kernel_rfl
                                                omega
  simp [List.getD, hl2]
/-- What a list of words reads as: words. -/
theorem view_words {H : Type} {enc : TypeId × Value → H} {W : World} {fuel : Nat} {a0 : Option Addr} {len cap : Nat} {d : DataW H} {p : List MemPlace}
    (hf : DataW.trod enc Tryd.prog W 0 (fun _ => true) true fuel 22 (Value.slice a0 len cap).cells.toList = some (d, p)) :
    len ≤ cap ∧ ∃ f, Reads W a0 len f := by
  rcases open_ints Tryd.underlying22 Tryd.underlying33 cells42 hf with ⟨hcs, hx⟩ | ⟨a, len', cap', zs, hcs, _, hl, hm, hz, hx, hcell, hwz⟩
  · simp [Value.cells] at hcs
    obtain ⟨rfl, rfl, rfl⟩ := hcs
    exact ⟨Nat.le_refl _, fun _ => 0, Reads.nil _ _ _⟩
  · simp [Value.cells] at hcs
    obtain ⟨rfl, rfl, rfl⟩ := hcs
    simp only [if_true] at hz
    refine ⟨hl, fun i => (zs.getD i 0).toNat, ?_⟩
    intro i hi
    have hc := hcell i (by omega)
    have hsp := World.cell?_spot (hcell 0 (by omega))
    obtain ⟨b, o, sp⟩ := a
    have hsp' : sp = none := by simpa [Addr.add] using hsp
    subst hsp'
    have hmem : zs.getD i 0 ∈ zs := by
      rw [List.getD_eq_getElem?_getD, List.getElem?_eq_getElem (by omega)]; exact List.getElem_mem _
    have hw := hwz _ hmem
    have hadd : (⟨b, o, none⟩ : Addr).add i = ⟨b, o + i, none⟩ := by unfold Addr.add; split <;> simp_all
    rw [hadd] at hc
    show ∃ b' o', _ ∧ W.cell? ⟨b', o' + i, none⟩ = some (.int .u64 (((zs.getD i 0).toNat : Nat) : Int)) ∧ (zs.getD i 0).toNat < B
    generalize zs.getD i 0 = z at *
    have hr : 0 ≤ z ∧ z < 18446744073709551616 := by
      simp only [Lit.wf, IntKind.min, IntKind.max, IntKind.signed, IntKind.bits, Bool.and_eq_true, decide_eq_true_eq] at hw
      simp at hw
      omega
    refine ⟨b, o, rfl, ?_, by unfold B; omega⟩
    rw [hc]
    congr 2
    omega
end Go.Proofs.YtbfdianmbpfjmaaDoor
