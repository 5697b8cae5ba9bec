/-
  No cell of these rows narrows 'for every input' (looked for: loops, veiled, ifaces, maps, wideKeys, modest, calm, conditions, laid).
  DERIVED. THE GIVEN ROWS OF THIS SEAT. 6 by the template 'for every input the law returns true; each argument reads behind the call as it read before'; 0 by the template 'total and deterministic' (their statements: YtmbmeapodhngaaaTotals.lean).
  GIVEN WITH THE SEED: the statements are not yours to turn. If you find one false, say at which input.
  Laid BY PROGRAM, IN A SANDBOX (cutbox-rows.mjs): the forced cells as the released guide's own fill.sh prints them over the translation 80d3ed5247edfccf… (all of the seat's roots in one cut). By AI agents, Wed Nov 11 2026. No macro, syntax, notation, axiom, sorry.
-/
import Derived.Test.YtmbmeapodhngaaaChecked
import GoSem.Claim
import GoSem.ClaimJoined
import GoSem.ClaimMapViews
import Derived.JoinedTies
import Derived.KernelRfl
namespace Go.Proofs.Ytmbmeapodhngaaa
/- THE CELL 'sum', in the pinned program and in every row, IS THE sha256 OF THE DUMP (.gsa) THAT YtmbmeapodhngaaaProg.lean LOADS. Nothing in Lean hashes anything: it is a label: what it is worth is what the hold of that sum in a sandbox is worth. -/
noncomputable def Try.pinned : Pinned := { name := "ytmbmeapodhngaaa", sum := "80d3ed5247edfccf340c148022392674b507852669da949e3fca432b3f458bc0", checked := Try.checked }
namespace Rows
def none {H : Type} : Left H := { results := [], args := [] }

/-- 'isohyetlaw03.FracAdds': WHATEVER THE INPUT: true; the input reads as it did. -/
def fracAddsSpec : ChangeSpec := { name := "fracAdds", fn := fun _ => fun
  | [d1, d2] => { results := [.lit (.bool true)], args := [d1, d2] }
  | _ => none }
def fracAddsRow : OpenClaim := { program := "ytmbmeapodhngaaa", sum := "80d3ed5247edfccf340c148022392674b507852669da949e3fca432b3f458bc0", func := "isohyet/isohyetlaw03.FracAdds", spec := "fracAdds", inPlace := ["math/bits.Add64", "math/bits.Sub64"], named := ["math/bits.divideError", "math/bits.overflowError"], apart := false }
def FracAddsSaid : Prop := fracAddsRow.holds Try.pinned (OpenSpec.ofChange fracAddsSpec)

/-- ITS FALSE NEIGHBOUR: 'it returns false'. Refute it at one input. -/
def fracAddsWrong : ChangeSpec := { name := "fracAdds", fn := fun _ => fun
  | [d1, d2] => { results := [.lit (.bool false)], args := [d1, d2] }
  | _ => none }
def FracAddsWrongFalsely : Prop := fracAddsRow.holds Try.pinned (OpenSpec.ofChange fracAddsWrong)

/-- 'isohyetlaw03.FracDivs': WHATEVER THE INPUT: true; the input reads as it did. -/
def fracDivsSpec : ChangeSpec := { name := "fracDivs", fn := fun _ => fun
  | [d1, d2] => { results := [.lit (.bool true)], args := [d1, d2] }
  | _ => none }
def fracDivsRow : OpenClaim := { program := "ytmbmeapodhngaaa", sum := "80d3ed5247edfccf340c148022392674b507852669da949e3fca432b3f458bc0", func := "isohyet/isohyetlaw03.FracDivs", spec := "fracDivs", inPlace := ["math/bits.Add64", "math/bits.Sub64"], named := ["math/bits.divideError", "math/bits.overflowError"], apart := false }
def FracDivsSaid : Prop := fracDivsRow.holds Try.pinned (OpenSpec.ofChange fracDivsSpec)

/-- ITS FALSE NEIGHBOUR: 'it returns false'. Refute it at one input. -/
def fracDivsWrong : ChangeSpec := { name := "fracDivs", fn := fun _ => fun
  | [d1, d2] => { results := [.lit (.bool false)], args := [d1, d2] }
  | _ => none }
def FracDivsWrongFalsely : Prop := fracDivsRow.holds Try.pinned (OpenSpec.ofChange fracDivsWrong)

/-- 'isohyetlaw03.FracLaws': WHATEVER THE INPUT: true; the input reads as it did. -/
def fracLawsSpec : ChangeSpec := { name := "fracLaws", fn := fun _ => fun
  | [d1, d2, d3] => { results := [.lit (.bool true)], args := [d1, d2, d3] }
  | _ => none }
def fracLawsRow : OpenClaim := { program := "ytmbmeapodhngaaa", sum := "80d3ed5247edfccf340c148022392674b507852669da949e3fca432b3f458bc0", func := "isohyet/isohyetlaw03.FracLaws", spec := "fracLaws", inPlace := ["math/bits.Add64", "math/bits.Sub64"], named := ["math/bits.divideError", "math/bits.overflowError"], apart := false }
def FracLawsSaid : Prop := fracLawsRow.holds Try.pinned (OpenSpec.ofChange fracLawsSpec)

/-- ITS FALSE NEIGHBOUR: 'it returns false'. Refute it at one input. -/
def fracLawsWrong : ChangeSpec := { name := "fracLaws", fn := fun _ => fun
  | [d1, d2, d3] => { results := [.lit (.bool false)], args := [d1, d2, d3] }
  | _ => none }
def FracLawsWrongFalsely : Prop := fracLawsRow.holds Try.pinned (OpenSpec.ofChange fracLawsWrong)

/-- 'isohyetlaw03.FracRounds': WHATEVER THE INPUT: true; the input reads as it did. -/
def fracRoundsSpec : ChangeSpec := { name := "fracRounds", fn := fun _ => fun
  | [d] => { results := [.lit (.bool true)], args := [d] }
  | _ => none }
def fracRoundsRow : OpenClaim := { program := "ytmbmeapodhngaaa", sum := "80d3ed5247edfccf340c148022392674b507852669da949e3fca432b3f458bc0", func := "isohyet/isohyetlaw03.FracRounds", spec := "fracRounds", inPlace := ["math/bits.Add64", "math/bits.Sub64"], named := ["math/bits.divideError", "math/bits.overflowError"], apart := false }
def FracRoundsSaid : Prop := fracRoundsRow.holds Try.pinned (OpenSpec.ofChange fracRoundsSpec)

/-- ITS FALSE NEIGHBOUR: 'it returns false'. Refute it at one input. -/
def fracRoundsWrong : ChangeSpec := { name := "fracRounds", fn := fun _ => fun
  | [d] => { results := [.lit (.bool false)], args := [d] }
  | _ => none }
def FracRoundsWrongFalsely : Prop := fracRoundsRow.holds Try.pinned (OpenSpec.ofChange fracRoundsWrong)

/-- 'isohyetlaw03.FracWholes': WHATEVER THE INPUT: true; the input reads as it did. -/
def fracWholesSpec : ChangeSpec := { name := "fracWholes", fn := fun _ => fun
  | [d1, d2] => { results := [.lit (.bool true)], args := [d1, d2] }
  | _ => none }
def fracWholesRow : OpenClaim := { program := "ytmbmeapodhngaaa", sum := "80d3ed5247edfccf340c148022392674b507852669da949e3fca432b3f458bc0", func := "isohyet/isohyetlaw03.FracWholes", spec := "fracWholes", inPlace := ["math/bits.Add64", "math/bits.Sub64"], named := ["math/bits.divideError", "math/bits.overflowError"], apart := false }
def FracWholesSaid : Prop := fracWholesRow.holds Try.pinned (OpenSpec.ofChange fracWholesSpec)

/-- ITS FALSE NEIGHBOUR: 'it returns false'. Refute it at one input. -/
def fracWholesWrong : ChangeSpec := { name := "fracWholes", fn := fun _ => fun
  | [d1, d2] => { results := [.lit (.bool false)], args := [d1, d2] }
  | _ => none }
def FracWholesWrongFalsely : Prop := fracWholesRow.holds Try.pinned (OpenSpec.ofChange fracWholesWrong)

/-- 'isohyetlaw03.FracBetween': WHATEVER THE INPUT: true; the input reads as it did. -/
def fracBetweenSpec : ChangeSpec := { name := "fracBetween", fn := fun _ => fun
  | [d1, d2] => { results := [.lit (.bool true)], args := [d1, d2] }
  | _ => none }
def fracBetweenRow : OpenClaim := { program := "ytmbmeapodhngaaa", sum := "80d3ed5247edfccf340c148022392674b507852669da949e3fca432b3f458bc0", func := "isohyet/isohyetlaw03.FracBetween", spec := "fracBetween", inPlace := ["math/bits.Add64", "math/bits.Sub64"], named := ["math/bits.divideError", "math/bits.overflowError"], apart := false }
def FracBetweenSaid : Prop := fracBetweenRow.holds Try.pinned (OpenSpec.ofChange fracBetweenSpec)

/-- ITS FALSE NEIGHBOUR: 'it returns false'. Refute it at one input. -/
def fracBetweenWrong : ChangeSpec := { name := "fracBetween", fn := fun _ => fun
  | [d1, d2] => { results := [.lit (.bool false)], args := [d1, d2] }
  | _ => none }
def FracBetweenWrongFalsely : Prop := fracBetweenRow.holds Try.pinned (OpenSpec.ofChange fracBetweenWrong)

/- THE SECOND FORM. 'bulk': how many values and letters a reading holds, each counted each time it is reached (what is shared counts as often as it is met; a slice's spare places count too). A statement '..UptoSaid' is the law's where the arguments, and the package variables that the reading takes, are together of bulk at most 1048576: NARROWER than '..Said'. Prove '..Said' where nothing that the law and all that it calls make is longer than what came in: it says more and counts as full. Else prove '..UptoSaid'. A law counts once. -/
mutual
def uptoBulk {H : Type} : DataW H → Nat
  | .lit (.string bytes) => bytes.length + 1
  | .lit _ => 1
  | .nil => 1
  | .ptr d => uptoBulk d + 1
  | .slice elems spare => uptoBulkAll elems + uptoBulkAll spare + 1
  | .agg parts => uptoBulkAll parts + 1
  | .iface _ d => uptoBulk d + 1
  | .map entries => uptoBulkEntries entries + 1
  | .held _ => 1
def uptoBulkAll {H : Type} : List (DataW H) → Nat
  | [] => 0
  | d :: r => uptoBulk d + uptoBulkAll r
def uptoBulkEntries {H : Type} : List (Lit × DataW H) → Nat
  | [] => 0
  | x :: r => uptoBulkEntry x + uptoBulkEntries r
def uptoBulkEntry {H : Type} : Lit × DataW H → Nat
  | (.string bytes, d) => bytes.length + uptoBulk d + 1
  | (_, d) => uptoBulk d + 1
 end
def uptoSmall : (H : Type) → List (DataW H) → Bool := fun _ ds => decide (uptoBulkAll ds ≤ 1048576)
def OpenSpec.upto (s : _root_.Go.ChangeSpec) : _root_.Go.OpenSpec := { _root_.Go.OpenSpec.ofChange s with cond := some uptoSmall }

/-- 'isohyetlaw03.FracAdds', WHERE WHAT IT READS IS OF BULK AT MOST 1048576: true; the input reads as it did. -/
def fracAddsUptoRow : OpenClaim := { program := "ytmbmeapodhngaaa", sum := "80d3ed5247edfccf340c148022392674b507852669da949e3fca432b3f458bc0", func := "isohyet/isohyetlaw03.FracAdds", spec := "fracAdds", inPlace := ["math/bits.Add64", "math/bits.Sub64"], named := ["math/bits.divideError", "math/bits.overflowError"], apart := false, narrowed := true }
def FracAddsUptoSaid : Prop := fracAddsUptoRow.holds Try.pinned (OpenSpec.upto fracAddsSpec)

/-- 'isohyetlaw03.FracDivs', WHERE WHAT IT READS IS OF BULK AT MOST 1048576: true; the input reads as it did. -/
def fracDivsUptoRow : OpenClaim := { program := "ytmbmeapodhngaaa", sum := "80d3ed5247edfccf340c148022392674b507852669da949e3fca432b3f458bc0", func := "isohyet/isohyetlaw03.FracDivs", spec := "fracDivs", inPlace := ["math/bits.Add64", "math/bits.Sub64"], named := ["math/bits.divideError", "math/bits.overflowError"], apart := false, narrowed := true }
def FracDivsUptoSaid : Prop := fracDivsUptoRow.holds Try.pinned (OpenSpec.upto fracDivsSpec)

/-- 'isohyetlaw03.FracLaws', WHERE WHAT IT READS IS OF BULK AT MOST 1048576: true; the input reads as it did. -/
def fracLawsUptoRow : OpenClaim := { program := "ytmbmeapodhngaaa", sum := "80d3ed5247edfccf340c148022392674b507852669da949e3fca432b3f458bc0", func := "isohyet/isohyetlaw03.FracLaws", spec := "fracLaws", inPlace := ["math/bits.Add64", "math/bits.Sub64"], named := ["math/bits.divideError", "math/bits.overflowError"], apart := false, narrowed := true }
def FracLawsUptoSaid : Prop := fracLawsUptoRow.holds Try.pinned (OpenSpec.upto fracLawsSpec)

/-- 'isohyetlaw03.FracRounds', WHERE WHAT IT READS IS OF BULK AT MOST 1048576: true; the input reads as it did. -/
def fracRoundsUptoRow : OpenClaim := { program := "ytmbmeapodhngaaa", sum := "80d3ed5247edfccf340c148022392674b507852669da949e3fca432b3f458bc0", func := "isohyet/isohyetlaw03.FracRounds", spec := "fracRounds", inPlace := ["math/bits.Add64", "math/bits.Sub64"], named := ["math/bits.divideError", "math/bits.overflowError"], apart := false, narrowed := true }
def FracRoundsUptoSaid : Prop := fracRoundsUptoRow.holds Try.pinned (OpenSpec.upto fracRoundsSpec)

/-- 'isohyetlaw03.FracWholes', WHERE WHAT IT READS IS OF BULK AT MOST 1048576: true; the input reads as it did. -/
def fracWholesUptoRow : OpenClaim := { program := "ytmbmeapodhngaaa", sum := "80d3ed5247edfccf340c148022392674b507852669da949e3fca432b3f458bc0", func := "isohyet/isohyetlaw03.FracWholes", spec := "fracWholes", inPlace := ["math/bits.Add64", "math/bits.Sub64"], named := ["math/bits.divideError", "math/bits.overflowError"], apart := false, narrowed := true }
def FracWholesUptoSaid : Prop := fracWholesUptoRow.holds Try.pinned (OpenSpec.upto fracWholesSpec)

/-- 'isohyetlaw03.FracBetween', WHERE WHAT IT READS IS OF BULK AT MOST 1048576: true; the input reads as it did. -/
def fracBetweenUptoRow : OpenClaim := { program := "ytmbmeapodhngaaa", sum := "80d3ed5247edfccf340c148022392674b507852669da949e3fca432b3f458bc0", func := "isohyet/isohyetlaw03.FracBetween", spec := "fracBetween", inPlace := ["math/bits.Add64", "math/bits.Sub64"], named := ["math/bits.divideError", "math/bits.overflowError"], apart := false, narrowed := true }
def FracBetweenUptoSaid : Prop := fracBetweenUptoRow.holds Try.pinned (OpenSpec.upto fracBetweenSpec)

end Rows
end Go.Proofs.Ytmbmeapodhngaaa
