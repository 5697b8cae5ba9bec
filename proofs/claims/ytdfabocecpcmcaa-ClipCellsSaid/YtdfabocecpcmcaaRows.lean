/-
  No cell of these rows narrows 'for every input' (looked for: loops, veiled, ifaces, maps, wideKeys, modest, calm, conditions, laid).
  DERIVED. THE GIVEN ROWS OF THIS SEAT. 5 by the template 'for every input the law returns true; each argument reads behind the call as it read before'; 0 by the template 'total and deterministic' (their statements: YtdfabocecpcmcaaTotals.lean).
  GIVEN WITH THE SEED: the statements are not yours to turn. If you find one false, say at which input.
  Laid BY PROGRAM, IN A SANDBOX (cutbox-rows.mjs): the forced cells as the released guide's own fill.sh prints them over the translation 0bb2a22bd02e8ac7… (all of the seat's roots in one cut). By AI agents, Wed Nov 11 2026. No macro, syntax, notation, axiom, sorry.
-/
import Derived.Test.YtdfabocecpcmcaaChecked
import GoSem.Claim
import GoSem.ClaimJoined
import GoSem.ClaimMapViews
import Derived.JoinedTies
import Derived.KernelRfl
namespace Go.Proofs.Ytdfabocecpcmcaa
/- THE CELL 'sum', in the pinned program and in every row, IS THE sha256 OF THE DUMP (.gsa) THAT YtdfabocecpcmcaaProg.lean LOADS. Nothing in Lean hashes anything: it is a label: what it is worth is what the hold of that sum in a sandbox is worth. -/
noncomputable def Try.pinned : Pinned := { name := "ytdfabocecpcmcaa", sum := "0bb2a22bd02e8ac779562900674c90b4cd3b5f0d5448aa0c1400bfbcca822f72", checked := Try.checked }
namespace Rows
def none {H : Type} : Left H := { results := [], args := [] }

/-- 'isohyetlaw08.ClipHalves': WHATEVER THE INPUT: true; the input reads as it did. -/
def clipHalvesSpec : ChangeSpec := { name := "clipHalves", fn := fun _ => fun
  | [d1, d2] => { results := [.lit (.bool true)], args := [d1, d2] }
  | _ => none }
def clipHalvesRow : OpenClaim := { program := "ytdfabocecpcmcaa", sum := "0bb2a22bd02e8ac779562900674c90b4cd3b5f0d5448aa0c1400bfbcca822f72", func := "isohyet/isohyetlaw08.ClipHalves", spec := "clipHalves", inPlace := ["math/bits.Add64", "math/bits.Sub64"], unfollowed := true, recurses := true, named := ["math/bits.divideError", "math/bits.overflowError"], apart := false }
def ClipHalvesSaid : Prop := clipHalvesRow.holds Try.pinned (OpenSpec.ofChange clipHalvesSpec)

/-- ITS FALSE NEIGHBOUR: 'it returns false'. Refute it at one input. -/
def clipHalvesWrong : ChangeSpec := { name := "clipHalves", fn := fun _ => fun
  | [d1, d2] => { results := [.lit (.bool false)], args := [d1, d2] }
  | _ => none }
def ClipHalvesWrongFalsely : Prop := clipHalvesRow.holds Try.pinned (OpenSpec.ofChange clipHalvesWrong)

/-- 'isohyetlaw08.ClipPoints': WHATEVER THE INPUT: true; the input reads as it did. -/
def clipPointsSpec : ChangeSpec := { name := "clipPoints", fn := fun _ => fun
  | [d1, d2, d3] => { results := [.lit (.bool true)], args := [d1, d2, d3] }
  | _ => none }
def clipPointsRow : OpenClaim := { program := "ytdfabocecpcmcaa", sum := "0bb2a22bd02e8ac779562900674c90b4cd3b5f0d5448aa0c1400bfbcca822f72", func := "isohyet/isohyetlaw08.ClipPoints", spec := "clipPoints", inPlace := ["math/bits.Add64", "math/bits.Sub64"], unfollowed := true, recurses := true, named := ["math/bits.divideError", "math/bits.overflowError"], apart := false }
def ClipPointsSaid : Prop := clipPointsRow.holds Try.pinned (OpenSpec.ofChange clipPointsSpec)

/-- ITS FALSE NEIGHBOUR: 'it returns false'. Refute it at one input. -/
def clipPointsWrong : ChangeSpec := { name := "clipPoints", fn := fun _ => fun
  | [d1, d2, d3] => { results := [.lit (.bool false)], args := [d1, d2, d3] }
  | _ => none }
def ClipPointsWrongFalsely : Prop := clipPointsRow.holds Try.pinned (OpenSpec.ofChange clipPointsWrong)

/-- 'isohyetlaw08.ClipNears': WHATEVER THE INPUT: true; the input reads as it did. -/
def clipNearsSpec : ChangeSpec := { name := "clipNears", fn := fun _ => fun
  | [d1, d2, d3] => { results := [.lit (.bool true)], args := [d1, d2, d3] }
  | _ => none }
def clipNearsRow : OpenClaim := { program := "ytdfabocecpcmcaa", sum := "0bb2a22bd02e8ac779562900674c90b4cd3b5f0d5448aa0c1400bfbcca822f72", func := "isohyet/isohyetlaw08.ClipNears", spec := "clipNears", inPlace := ["math/bits.Add64", "math/bits.Sub64"], unfollowed := true, recurses := true, named := ["math/bits.divideError", "math/bits.overflowError"], apart := false }
def ClipNearsSaid : Prop := clipNearsRow.holds Try.pinned (OpenSpec.ofChange clipNearsSpec)

/-- ITS FALSE NEIGHBOUR: 'it returns false'. Refute it at one input. -/
def clipNearsWrong : ChangeSpec := { name := "clipNears", fn := fun _ => fun
  | [d1, d2, d3] => { results := [.lit (.bool false)], args := [d1, d2, d3] }
  | _ => none }
def ClipNearsWrongFalsely : Prop := clipNearsRow.holds Try.pinned (OpenSpec.ofChange clipNearsWrong)

/-- 'isohyetlaw08.ClipCells': WHATEVER THE INPUT: true; the input reads as it did. -/
def clipCellsSpec : ChangeSpec := { name := "clipCells", fn := fun _ => fun
  | [d1, d2] => { results := [.lit (.bool true)], args := [d1, d2] }
  | _ => none }
def clipCellsRow : OpenClaim := { program := "ytdfabocecpcmcaa", sum := "0bb2a22bd02e8ac779562900674c90b4cd3b5f0d5448aa0c1400bfbcca822f72", func := "isohyet/isohyetlaw08.ClipCells", spec := "clipCells", inPlace := ["math/bits.Add64", "math/bits.Sub64"], unfollowed := true, recurses := true, named := ["math/bits.divideError", "math/bits.overflowError"], apart := false }
def ClipCellsSaid : Prop := clipCellsRow.holds Try.pinned (OpenSpec.ofChange clipCellsSpec)

/-- ITS FALSE NEIGHBOUR: 'it returns false'. Refute it at one input. -/
def clipCellsWrong : ChangeSpec := { name := "clipCells", fn := fun _ => fun
  | [d1, d2] => { results := [.lit (.bool false)], args := [d1, d2] }
  | _ => none }
def ClipCellsWrongFalsely : Prop := clipCellsRow.holds Try.pinned (OpenSpec.ofChange clipCellsWrong)

/-- 'isohyetlaw08.ClipOrders': WHATEVER THE INPUT: true; the input reads as it did. -/
def clipOrdersSpec : ChangeSpec := { name := "clipOrders", fn := fun _ => fun
  | [d1, d2, d3] => { results := [.lit (.bool true)], args := [d1, d2, d3] }
  | _ => none }
def clipOrdersRow : OpenClaim := { program := "ytdfabocecpcmcaa", sum := "0bb2a22bd02e8ac779562900674c90b4cd3b5f0d5448aa0c1400bfbcca822f72", func := "isohyet/isohyetlaw08.ClipOrders", spec := "clipOrders", inPlace := ["math/bits.Add64", "math/bits.Sub64"], unfollowed := true, recurses := true, named := ["math/bits.divideError", "math/bits.overflowError"], apart := false }
def ClipOrdersSaid : Prop := clipOrdersRow.holds Try.pinned (OpenSpec.ofChange clipOrdersSpec)

/-- ITS FALSE NEIGHBOUR: 'it returns false'. Refute it at one input. -/
def clipOrdersWrong : ChangeSpec := { name := "clipOrders", fn := fun _ => fun
  | [d1, d2, d3] => { results := [.lit (.bool false)], args := [d1, d2, d3] }
  | _ => none }
def ClipOrdersWrongFalsely : Prop := clipOrdersRow.holds Try.pinned (OpenSpec.ofChange clipOrdersWrong)

/- THE SECOND FORM. 'bulk': how many values and letters a reading holds, each counted each time it is reached (what is shared counts as often as it is met; a slice's spare places count too). A statement '..UptoSaid' is the law's where the arguments, and the package variables that the reading takes, are together of bulk at most 1048576: NARROWER than '..Said'. Prove '..Said' where nothing that the law and all that it calls make is longer than what came in: it says more and counts as full. Else prove '..UptoSaid'. A law counts once. -/
mutual
def uptoBulk {H : Type} : DataW H → Nat
  | .lit (.string bytes) => bytes.length + 1
  | .lit _ => 1
  | .nil => 1
  | .ptr d => uptoBulk d + 1
  | .slice elems spare => uptoBulkAll elems + uptoBulkAll spare + 1
  | .agg parts => uptoBulkAll parts + 1
  | .iface _ d => uptoBulk d + 1
  | .map entries => uptoBulkEntries entries + 1
  | .held _ => 1
def uptoBulkAll {H : Type} : List (DataW H) → Nat
  | [] => 0
  | d :: r => uptoBulk d + uptoBulkAll r
def uptoBulkEntries {H : Type} : List (Lit × DataW H) → Nat
  | [] => 0
  | x :: r => uptoBulkEntry x + uptoBulkEntries r
def uptoBulkEntry {H : Type} : Lit × DataW H → Nat
  | (.string bytes, d) => bytes.length + uptoBulk d + 1
  | (_, d) => uptoBulk d + 1
 end
def uptoSmall : (H : Type) → List (DataW H) → Bool := fun _ ds => decide (uptoBulkAll ds ≤ 1048576)
def OpenSpec.upto (s : _root_.Go.ChangeSpec) : _root_.Go.OpenSpec := { _root_.Go.OpenSpec.ofChange s with cond := some uptoSmall }

/-- 'isohyetlaw08.ClipHalves', WHERE WHAT IT READS IS OF BULK AT MOST 1048576: true; the input reads as it did. -/
def clipHalvesUptoRow : OpenClaim := { program := "ytdfabocecpcmcaa", sum := "0bb2a22bd02e8ac779562900674c90b4cd3b5f0d5448aa0c1400bfbcca822f72", func := "isohyet/isohyetlaw08.ClipHalves", spec := "clipHalves", inPlace := ["math/bits.Add64", "math/bits.Sub64"], unfollowed := true, recurses := true, named := ["math/bits.divideError", "math/bits.overflowError"], apart := false, narrowed := true }
def ClipHalvesUptoSaid : Prop := clipHalvesUptoRow.holds Try.pinned (OpenSpec.upto clipHalvesSpec)

/-- 'isohyetlaw08.ClipPoints', WHERE WHAT IT READS IS OF BULK AT MOST 1048576: true; the input reads as it did. -/
def clipPointsUptoRow : OpenClaim := { program := "ytdfabocecpcmcaa", sum := "0bb2a22bd02e8ac779562900674c90b4cd3b5f0d5448aa0c1400bfbcca822f72", func := "isohyet/isohyetlaw08.ClipPoints", spec := "clipPoints", inPlace := ["math/bits.Add64", "math/bits.Sub64"], unfollowed := true, recurses := true, named := ["math/bits.divideError", "math/bits.overflowError"], apart := false, narrowed := true }
def ClipPointsUptoSaid : Prop := clipPointsUptoRow.holds Try.pinned (OpenSpec.upto clipPointsSpec)

/-- 'isohyetlaw08.ClipNears', WHERE WHAT IT READS IS OF BULK AT MOST 1048576: true; the input reads as it did. -/
def clipNearsUptoRow : OpenClaim := { program := "ytdfabocecpcmcaa", sum := "0bb2a22bd02e8ac779562900674c90b4cd3b5f0d5448aa0c1400bfbcca822f72", func := "isohyet/isohyetlaw08.ClipNears", spec := "clipNears", inPlace := ["math/bits.Add64", "math/bits.Sub64"], unfollowed := true, recurses := true, named := ["math/bits.divideError", "math/bits.overflowError"], apart := false, narrowed := true }
def ClipNearsUptoSaid : Prop := clipNearsUptoRow.holds Try.pinned (OpenSpec.upto clipNearsSpec)

/-- 'isohyetlaw08.ClipCells', WHERE WHAT IT READS IS OF BULK AT MOST 1048576: true; the input reads as it did. -/
def clipCellsUptoRow : OpenClaim := { program := "ytdfabocecpcmcaa", sum := "0bb2a22bd02e8ac779562900674c90b4cd3b5f0d5448aa0c1400bfbcca822f72", func := "isohyet/isohyetlaw08.ClipCells", spec := "clipCells", inPlace := ["math/bits.Add64", "math/bits.Sub64"], unfollowed := true, recurses := true, named := ["math/bits.divideError", "math/bits.overflowError"], apart := false, narrowed := true }
def ClipCellsUptoSaid : Prop := clipCellsUptoRow.holds Try.pinned (OpenSpec.upto clipCellsSpec)

/-- 'isohyetlaw08.ClipOrders', WHERE WHAT IT READS IS OF BULK AT MOST 1048576: true; the input reads as it did. -/
def clipOrdersUptoRow : OpenClaim := { program := "ytdfabocecpcmcaa", sum := "0bb2a22bd02e8ac779562900674c90b4cd3b5f0d5448aa0c1400bfbcca822f72", func := "isohyet/isohyetlaw08.ClipOrders", spec := "clipOrders", inPlace := ["math/bits.Add64", "math/bits.Sub64"], unfollowed := true, recurses := true, named := ["math/bits.divideError", "math/bits.overflowError"], apart := false, narrowed := true }
def ClipOrdersUptoSaid : Prop := clipOrdersUptoRow.holds Try.pinned (OpenSpec.upto clipOrdersSpec)

end Rows
end Go.Proofs.Ytdfabocecpcmcaa
