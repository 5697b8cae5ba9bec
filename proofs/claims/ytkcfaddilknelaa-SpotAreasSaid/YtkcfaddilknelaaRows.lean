/-
  No cell of these rows narrows 'for every input' (looked for: loops, veiled, ifaces, maps, wideKeys, modest, calm, conditions, laid).
  DERIVED. THE GIVEN ROWS OF THIS SEAT. 6 by the template 'for every input the law returns true; each argument reads behind the call as it read before'; 0 by the template 'total and deterministic' (their statements: YtkcfaddilknelaaTotals.lean).
  GIVEN WITH THE SEED: the statements are not yours to turn. If you find one false, say at which input.
  Laid BY PROGRAM, IN A SANDBOX (cutbox-rows.mjs): the forced cells as the released guide's own fill.sh prints them over the translation 497c60af73a85a7a… (all of the seat's roots in one cut). By AI agents, Wed Nov 11 2026. No macro, syntax, notation, axiom, sorry.
-/
import Derived.Test.YtkcfaddilknelaaChecked
import GoSem.Claim
import GoSem.ClaimJoined
import GoSem.ClaimMapViews
import Derived.JoinedTies
import Derived.KernelRfl
namespace Go.Proofs.Ytkcfaddilknelaa
/- THE CELL 'sum', in the pinned program and in every row, IS THE sha256 OF THE DUMP (.gsa) THAT YtkcfaddilknelaaProg.lean LOADS. Nothing in Lean hashes anything: it is a label: what it is worth is what the hold of that sum in a sandbox is worth. -/
noncomputable def Try.pinned : Pinned := { name := "ytkcfaddilknelaa", sum := "497c60af73a85a7afa72f5d1d2f31e9e1b6074959ae96018a4e9814f3ea4e8f5", checked := Try.checked }
namespace Rows
def none {H : Type} : Left H := { results := [], args := [] }

/-- 'isohyetlaw07.SpotCentres': WHATEVER THE INPUT: true; the input reads as it did. -/
def spotCentresSpec : ChangeSpec := { name := "spotCentres", fn := fun _ => fun
  | [d1, d2, d3] => { results := [.lit (.bool true)], args := [d1, d2, d3] }
  | _ => none }
def spotCentresRow : OpenClaim := { program := "ytkcfaddilknelaa", sum := "497c60af73a85a7afa72f5d1d2f31e9e1b6074959ae96018a4e9814f3ea4e8f5", func := "isohyet/isohyetlaw07.SpotCentres", spec := "spotCentres", inPlace := ["math/bits.Sub64", "math/bits.Add64"], named := ["math/bits.divideError", "math/bits.overflowError"], apart := false }
def SpotCentresSaid : Prop := spotCentresRow.holds Try.pinned (OpenSpec.ofChange spotCentresSpec)

/-- ITS FALSE NEIGHBOUR: 'it returns false'. Refute it at one input. -/
def spotCentresWrong : ChangeSpec := { name := "spotCentres", fn := fun _ => fun
  | [d1, d2, d3] => { results := [.lit (.bool false)], args := [d1, d2, d3] }
  | _ => none }
def SpotCentresWrongFalsely : Prop := spotCentresRow.holds Try.pinned (OpenSpec.ofChange spotCentresWrong)

/-- 'isohyetlaw07.SpotAlongs': WHATEVER THE INPUT: true; the input reads as it did. -/
def spotAlongsSpec : ChangeSpec := { name := "spotAlongs", fn := fun _ => fun
  | [d1, d2, d3] => { results := [.lit (.bool true)], args := [d1, d2, d3] }
  | _ => none }
def spotAlongsRow : OpenClaim := { program := "ytkcfaddilknelaa", sum := "497c60af73a85a7afa72f5d1d2f31e9e1b6074959ae96018a4e9814f3ea4e8f5", func := "isohyet/isohyetlaw07.SpotAlongs", spec := "spotAlongs", inPlace := ["math/bits.Sub64", "math/bits.Add64"], unfollowed := true, recurses := true, named := ["math/bits.divideError", "math/bits.overflowError"], apart := false }
def SpotAlongsSaid : Prop := spotAlongsRow.holds Try.pinned (OpenSpec.ofChange spotAlongsSpec)

/-- ITS FALSE NEIGHBOUR: 'it returns false'. Refute it at one input. -/
def spotAlongsWrong : ChangeSpec := { name := "spotAlongs", fn := fun _ => fun
  | [d1, d2, d3] => { results := [.lit (.bool false)], args := [d1, d2, d3] }
  | _ => none }
def SpotAlongsWrongFalsely : Prop := spotAlongsRow.holds Try.pinned (OpenSpec.ofChange spotAlongsWrong)

/-- 'isohyetlaw07.SpotAreas': WHATEVER THE INPUT: true; the input reads as it did. -/
def spotAreasSpec : ChangeSpec := { name := "spotAreas", fn := fun _ => fun
  | [d1, d2] => { results := [.lit (.bool true)], args := [d1, d2] }
  | _ => none }
def spotAreasRow : OpenClaim := { program := "ytkcfaddilknelaa", sum := "497c60af73a85a7afa72f5d1d2f31e9e1b6074959ae96018a4e9814f3ea4e8f5", func := "isohyet/isohyetlaw07.SpotAreas", spec := "spotAreas", inPlace := ["math/bits.Sub64", "math/bits.Add64"], unfollowed := true, recurses := true, named := ["math/bits.divideError", "math/bits.overflowError"], apart := false }
def SpotAreasSaid : Prop := spotAreasRow.holds Try.pinned (OpenSpec.ofChange spotAreasSpec)

/-- ITS FALSE NEIGHBOUR: 'it returns false'. Refute it at one input. -/
def spotAreasWrong : ChangeSpec := { name := "spotAreas", fn := fun _ => fun
  | [d1, d2] => { results := [.lit (.bool false)], args := [d1, d2] }
  | _ => none }
def SpotAreasWrongFalsely : Prop := spotAreasRow.holds Try.pinned (OpenSpec.ofChange spotAreasWrong)

/-- 'isohyetlaw07.SpotSides': WHATEVER THE INPUT: true; the input reads as it did. -/
def spotSidesSpec : ChangeSpec := { name := "spotSides", fn := fun _ => fun
  | [d1, d2] => { results := [.lit (.bool true)], args := [d1, d2] }
  | _ => none }
def spotSidesRow : OpenClaim := { program := "ytkcfaddilknelaa", sum := "497c60af73a85a7afa72f5d1d2f31e9e1b6074959ae96018a4e9814f3ea4e8f5", func := "isohyet/isohyetlaw07.SpotSides", spec := "spotSides", inPlace := ["math/bits.Sub64", "math/bits.Add64"], unfollowed := true, recurses := true, named := ["math/bits.divideError", "math/bits.overflowError"], apart := false }
def SpotSidesSaid : Prop := spotSidesRow.holds Try.pinned (OpenSpec.ofChange spotSidesSpec)

/-- ITS FALSE NEIGHBOUR: 'it returns false'. Refute it at one input. -/
def spotSidesWrong : ChangeSpec := { name := "spotSides", fn := fun _ => fun
  | [d1, d2] => { results := [.lit (.bool false)], args := [d1, d2] }
  | _ => none }
def SpotSidesWrongFalsely : Prop := spotSidesRow.holds Try.pinned (OpenSpec.ofChange spotSidesWrong)

/-- 'isohyetlaw07.SpotShares': WHATEVER THE INPUT: true; the input reads as it did. -/
def spotSharesSpec : ChangeSpec := { name := "spotShares", fn := fun _ => fun
  | [d1, d2] => { results := [.lit (.bool true)], args := [d1, d2] }
  | _ => none }
def spotSharesRow : OpenClaim := { program := "ytkcfaddilknelaa", sum := "497c60af73a85a7afa72f5d1d2f31e9e1b6074959ae96018a4e9814f3ea4e8f5", func := "isohyet/isohyetlaw07.SpotShares", spec := "spotShares", inPlace := ["math/bits.Sub64", "math/bits.Add64"], unfollowed := true, recurses := true, named := ["math/bits.divideError", "math/bits.overflowError"], apart := false }
def SpotSharesSaid : Prop := spotSharesRow.holds Try.pinned (OpenSpec.ofChange spotSharesSpec)

/-- ITS FALSE NEIGHBOUR: 'it returns false'. Refute it at one input. -/
def spotSharesWrong : ChangeSpec := { name := "spotShares", fn := fun _ => fun
  | [d1, d2] => { results := [.lit (.bool false)], args := [d1, d2] }
  | _ => none }
def SpotSharesWrongFalsely : Prop := spotSharesRow.holds Try.pinned (OpenSpec.ofChange spotSharesWrong)

/-- 'isohyetlaw07.SpotMoves': WHATEVER THE INPUT: true; the input reads as it did. -/
def spotMovesSpec : ChangeSpec := { name := "spotMoves", fn := fun _ => fun
  | [d1, d2] => { results := [.lit (.bool true)], args := [d1, d2] }
  | _ => none }
def spotMovesRow : OpenClaim := { program := "ytkcfaddilknelaa", sum := "497c60af73a85a7afa72f5d1d2f31e9e1b6074959ae96018a4e9814f3ea4e8f5", func := "isohyet/isohyetlaw07.SpotMoves", spec := "spotMoves", inPlace := ["math/bits.Sub64", "math/bits.Add64"], named := ["math/bits.divideError", "math/bits.overflowError"], apart := false }
def SpotMovesSaid : Prop := spotMovesRow.holds Try.pinned (OpenSpec.ofChange spotMovesSpec)

/-- ITS FALSE NEIGHBOUR: 'it returns false'. Refute it at one input. -/
def spotMovesWrong : ChangeSpec := { name := "spotMoves", fn := fun _ => fun
  | [d1, d2] => { results := [.lit (.bool false)], args := [d1, d2] }
  | _ => none }
def SpotMovesWrongFalsely : Prop := spotMovesRow.holds Try.pinned (OpenSpec.ofChange spotMovesWrong)

/- THE SECOND FORM. 'bulk': how many values and letters a reading holds, each counted each time it is reached (what is shared counts as often as it is met; a slice's spare places count too). A statement '..UptoSaid' is the law's where the arguments, and the package variables that the reading takes, are together of bulk at most 1048576: NARROWER than '..Said'. Prove '..Said' where nothing that the law and all that it calls make is longer than what came in: it says more and counts as full. Else prove '..UptoSaid'. A law counts once. -/
mutual
def uptoBulk {H : Type} : DataW H → Nat
  | .lit (.string bytes) => bytes.length + 1
  | .lit _ => 1
  | .nil => 1
  | .ptr d => uptoBulk d + 1
  | .slice elems spare => uptoBulkAll elems + uptoBulkAll spare + 1
  | .agg parts => uptoBulkAll parts + 1
  | .iface _ d => uptoBulk d + 1
  | .map entries => uptoBulkEntries entries + 1
  | .held _ => 1
def uptoBulkAll {H : Type} : List (DataW H) → Nat
  | [] => 0
  | d :: r => uptoBulk d + uptoBulkAll r
def uptoBulkEntries {H : Type} : List (Lit × DataW H) → Nat
  | [] => 0
  | x :: r => uptoBulkEntry x + uptoBulkEntries r
def uptoBulkEntry {H : Type} : Lit × DataW H → Nat
  | (.string bytes, d) => bytes.length + uptoBulk d + 1
  | (_, d) => uptoBulk d + 1
 end
def uptoSmall : (H : Type) → List (DataW H) → Bool := fun _ ds => decide (uptoBulkAll ds ≤ 1048576)
def OpenSpec.upto (s : _root_.Go.ChangeSpec) : _root_.Go.OpenSpec := { _root_.Go.OpenSpec.ofChange s with cond := some uptoSmall }

/-- 'isohyetlaw07.SpotCentres', WHERE WHAT IT READS IS OF BULK AT MOST 1048576: true; the input reads as it did. -/
def spotCentresUptoRow : OpenClaim := { program := "ytkcfaddilknelaa", sum := "497c60af73a85a7afa72f5d1d2f31e9e1b6074959ae96018a4e9814f3ea4e8f5", func := "isohyet/isohyetlaw07.SpotCentres", spec := "spotCentres", inPlace := ["math/bits.Sub64", "math/bits.Add64"], named := ["math/bits.divideError", "math/bits.overflowError"], apart := false, narrowed := true }
def SpotCentresUptoSaid : Prop := spotCentresUptoRow.holds Try.pinned (OpenSpec.upto spotCentresSpec)

/-- 'isohyetlaw07.SpotAlongs', WHERE WHAT IT READS IS OF BULK AT MOST 1048576: true; the input reads as it did. -/
def spotAlongsUptoRow : OpenClaim := { program := "ytkcfaddilknelaa", sum := "497c60af73a85a7afa72f5d1d2f31e9e1b6074959ae96018a4e9814f3ea4e8f5", func := "isohyet/isohyetlaw07.SpotAlongs", spec := "spotAlongs", inPlace := ["math/bits.Sub64", "math/bits.Add64"], unfollowed := true, recurses := true, named := ["math/bits.divideError", "math/bits.overflowError"], apart := false, narrowed := true }
def SpotAlongsUptoSaid : Prop := spotAlongsUptoRow.holds Try.pinned (OpenSpec.upto spotAlongsSpec)

/-- 'isohyetlaw07.SpotAreas', WHERE WHAT IT READS IS OF BULK AT MOST 1048576: true; the input reads as it did. -/
def spotAreasUptoRow : OpenClaim := { program := "ytkcfaddilknelaa", sum := "497c60af73a85a7afa72f5d1d2f31e9e1b6074959ae96018a4e9814f3ea4e8f5", func := "isohyet/isohyetlaw07.SpotAreas", spec := "spotAreas", inPlace := ["math/bits.Sub64", "math/bits.Add64"], unfollowed := true, recurses := true, named := ["math/bits.divideError", "math/bits.overflowError"], apart := false, narrowed := true }
def SpotAreasUptoSaid : Prop := spotAreasUptoRow.holds Try.pinned (OpenSpec.upto spotAreasSpec)

/-- 'isohyetlaw07.SpotSides', WHERE WHAT IT READS IS OF BULK AT MOST 1048576: true; the input reads as it did. -/
def spotSidesUptoRow : OpenClaim := { program := "ytkcfaddilknelaa", sum := "497c60af73a85a7afa72f5d1d2f31e9e1b6074959ae96018a4e9814f3ea4e8f5", func := "isohyet/isohyetlaw07.SpotSides", spec := "spotSides", inPlace := ["math/bits.Sub64", "math/bits.Add64"], unfollowed := true, recurses := true, named := ["math/bits.divideError", "math/bits.overflowError"], apart := false, narrowed := true }
def SpotSidesUptoSaid : Prop := spotSidesUptoRow.holds Try.pinned (OpenSpec.upto spotSidesSpec)

/-- 'isohyetlaw07.SpotShares', WHERE WHAT IT READS IS OF BULK AT MOST 1048576: true; the input reads as it did. -/
def spotSharesUptoRow : OpenClaim := { program := "ytkcfaddilknelaa", sum := "497c60af73a85a7afa72f5d1d2f31e9e1b6074959ae96018a4e9814f3ea4e8f5", func := "isohyet/isohyetlaw07.SpotShares", spec := "spotShares", inPlace := ["math/bits.Sub64", "math/bits.Add64"], unfollowed := true, recurses := true, named := ["math/bits.divideError", "math/bits.overflowError"], apart := false, narrowed := true }
def SpotSharesUptoSaid : Prop := spotSharesUptoRow.holds Try.pinned (OpenSpec.upto spotSharesSpec)

/-- 'isohyetlaw07.SpotMoves', WHERE WHAT IT READS IS OF BULK AT MOST 1048576: true; the input reads as it did. -/
def spotMovesUptoRow : OpenClaim := { program := "ytkcfaddilknelaa", sum := "497c60af73a85a7afa72f5d1d2f31e9e1b6074959ae96018a4e9814f3ea4e8f5", func := "isohyet/isohyetlaw07.SpotMoves", spec := "spotMoves", inPlace := ["math/bits.Sub64", "math/bits.Add64"], named := ["math/bits.divideError", "math/bits.overflowError"], apart := false, narrowed := true }
def SpotMovesUptoSaid : Prop := spotMovesUptoRow.holds Try.pinned (OpenSpec.upto spotMovesSpec)

end Rows
end Go.Proofs.Ytkcfaddilknelaa
