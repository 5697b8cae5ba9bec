/-
  No cell of these rows narrows 'for every input' (looked for: loops, veiled, ifaces, maps, wideKeys, modest, calm, conditions, laid).
  DERIVED. THE GIVEN ROWS OF THIS SEAT. 3 by the template 'for every input the law returns true; each argument reads behind the call as it read before'; 0 by the template 'total and deterministic' (their statements: YtammmemfkpcpcaaGreatTotals.lean).
  GIVEN WITH THE SEED: the statements are not yours to turn. If you find one false, say at which input.
  Laid BY PROGRAM, IN A SANDBOX (cutbox-rows.mjs): the forced cells as the released guide's own fill.sh prints them over the translation d590641ea0caff6f… (all of the seat's roots in one cut). By AI agents, Wed Nov 11 2026. No macro, syntax, notation, axiom, sorry.
-/
import Derived.Test.YtammmemfkpcpcaaGreatChecked
import GoSem.Claim
import GoSem.ClaimJoined
import GoSem.ClaimMapViews
import Derived.JoinedTies
import Derived.KernelRfl
namespace Go.Proofs.YtammmemfkpcpcaaGreat
/- THE CELL 'sum', in the pinned program and in every row, IS THE sha256 OF THE DUMP (.gsa) THAT YtammmemfkpcpcaaGreatProg.lean LOADS. Nothing in Lean hashes anything: it is a label: what it is worth is what the hold of that sum in a sandbox is worth. -/
noncomputable def Tryz.pinned : Pinned := { name := "ytammmemfkpcpcaagreat", sum := "d590641ea0caff6fe5044a65e84e777b662bb6c2017cc97ba45b8c1266523687", checked := Tryz.checked }
namespace Rows
def none {H : Type} : Left H := { results := [], args := [] }

/-- 'isohyetlaw12.GrowStars': WHATEVER THE INPUT: true; the input reads as it did. -/
def growStarsSpec : ChangeSpec := { name := "growStars", fn := fun _ => fun
  | [d1, d2, d3] => { results := [.lit (.bool true)], args := [d1, d2, d3] }
  | _ => none }
def growStarsRow : OpenClaim := { program := "ytammmemfkpcpcaagreat", sum := "d590641ea0caff6fe5044a65e84e777b662bb6c2017cc97ba45b8c1266523687", func := "isohyet/isohyetlaw12.GrowStars", spec := "growStars", inPlace := ["math/bits.Sub64", "math/bits.Add64"], unfollowed := true, recurses := true, plainKeys := false, apart := false }
def GrowStarsSaid : Prop := growStarsRow.holds Tryz.pinned (OpenSpec.ofChange growStarsSpec)

/-- ITS FALSE NEIGHBOUR: 'it returns false'. Refute it at one input. -/
def growStarsWrong : ChangeSpec := { name := "growStars", fn := fun _ => fun
  | [d1, d2, d3] => { results := [.lit (.bool false)], args := [d1, d2, d3] }
  | _ => none }
def GrowStarsWrongFalsely : Prop := growStarsRow.holds Tryz.pinned (OpenSpec.ofChange growStarsWrong)

/-- 'isohyetlaw14.StealNormals': WHATEVER THE INPUT: true; the input reads as it did. -/
def stealNormalsSpec : ChangeSpec := { name := "stealNormals", fn := fun _ => fun
  | [d] => { results := [.lit (.bool true)], args := [d] }
  | _ => none }
def stealNormalsRow : OpenClaim := { program := "ytammmemfkpcpcaagreat", sum := "d590641ea0caff6fe5044a65e84e777b662bb6c2017cc97ba45b8c1266523687", func := "isohyet/isohyetlaw14.StealNormals", spec := "stealNormals", inPlace := ["math/bits.Sub64", "math/bits.Add64"], unfollowed := true, recurses := true, named := ["math/bits.divideError", "math/bits.overflowError"], plainKeys := false, apart := false }
def StealNormalsSaid : Prop := stealNormalsRow.holds Tryz.pinned (OpenSpec.ofChange stealNormalsSpec)

/-- ITS FALSE NEIGHBOUR: 'it returns false'. Refute it at one input. -/
def stealNormalsWrong : ChangeSpec := { name := "stealNormals", fn := fun _ => fun
  | [d] => { results := [.lit (.bool false)], args := [d] }
  | _ => none }
def StealNormalsWrongFalsely : Prop := stealNormalsRow.holds Tryz.pinned (OpenSpec.ofChange stealNormalsWrong)

/-- 'isohyetlaw15.LaceRatios': WHATEVER THE INPUT: true; the input reads as it did. -/
def laceRatiosSpec : ChangeSpec := { name := "laceRatios", fn := fun _ => fun
  | [d1, d2, d3] => { results := [.lit (.bool true)], args := [d1, d2, d3] }
  | _ => none }
def laceRatiosRow : OpenClaim := { program := "ytammmemfkpcpcaagreat", sum := "d590641ea0caff6fe5044a65e84e777b662bb6c2017cc97ba45b8c1266523687", func := "isohyet/isohyetlaw15.LaceRatios", spec := "laceRatios", inPlace := ["math/bits.Sub64", "math/bits.Add64"], unfollowed := true, recurses := true, named := ["math/bits.divideError", "math/bits.overflowError"], plainKeys := false, apart := false }
def LaceRatiosSaid : Prop := laceRatiosRow.holds Tryz.pinned (OpenSpec.ofChange laceRatiosSpec)

/-- ITS FALSE NEIGHBOUR: 'it returns false'. Refute it at one input. -/
def laceRatiosWrong : ChangeSpec := { name := "laceRatios", fn := fun _ => fun
  | [d1, d2, d3] => { results := [.lit (.bool false)], args := [d1, d2, d3] }
  | _ => none }
def LaceRatiosWrongFalsely : Prop := laceRatiosRow.holds Tryz.pinned (OpenSpec.ofChange laceRatiosWrong)

/- THE SECOND FORM. 'bulk': how many values and letters a reading holds, each counted each time it is reached (what is shared counts as often as it is met; a slice's spare places count too). A statement '..UptoSaid' is the law's where the arguments, and the package variables that the reading takes, are together of bulk at most 1048576: NARROWER than '..Said'. Prove '..Said' where nothing that the law and all that it calls make is longer than what came in: it says more and counts as full. Else prove '..UptoSaid'. A law counts once. -/
mutual
def uptoBulk {H : Type} : DataW H → Nat
  | .lit (.string bytes) => bytes.length + 1
  | .lit _ => 1
  | .nil => 1
  | .ptr d => uptoBulk d + 1
  | .slice elems spare => uptoBulkAll elems + uptoBulkAll spare + 1
  | .agg parts => uptoBulkAll parts + 1
  | .iface _ d => uptoBulk d + 1
  | .map entries => uptoBulkEntries entries + 1
  | .held _ => 1
def uptoBulkAll {H : Type} : List (DataW H) → Nat
  | [] => 0
  | d :: r => uptoBulk d + uptoBulkAll r
def uptoBulkEntries {H : Type} : List (Lit × DataW H) → Nat
  | [] => 0
  | x :: r => uptoBulkEntry x + uptoBulkEntries r
def uptoBulkEntry {H : Type} : Lit × DataW H → Nat
  | (.string bytes, d) => bytes.length + uptoBulk d + 1
  | (_, d) => uptoBulk d + 1
 end
def uptoSmall : (H : Type) → List (DataW H) → Bool := fun _ ds => decide (uptoBulkAll ds ≤ 1048576)
def OpenSpec.upto (s : _root_.Go.ChangeSpec) : _root_.Go.OpenSpec := { _root_.Go.OpenSpec.ofChange s with cond := some uptoSmall }

/-- 'isohyetlaw12.GrowStars', WHERE WHAT IT READS IS OF BULK AT MOST 1048576: true; the input reads as it did. -/
def growStarsUptoRow : OpenClaim := { program := "ytammmemfkpcpcaagreat", sum := "d590641ea0caff6fe5044a65e84e777b662bb6c2017cc97ba45b8c1266523687", func := "isohyet/isohyetlaw12.GrowStars", spec := "growStars", inPlace := ["math/bits.Sub64", "math/bits.Add64"], unfollowed := true, recurses := true, plainKeys := false, apart := false, narrowed := true }
def GrowStarsUptoSaid : Prop := growStarsUptoRow.holds Tryz.pinned (OpenSpec.upto growStarsSpec)

/-- 'isohyetlaw14.StealNormals', WHERE WHAT IT READS IS OF BULK AT MOST 1048576: true; the input reads as it did. -/
def stealNormalsUptoRow : OpenClaim := { program := "ytammmemfkpcpcaagreat", sum := "d590641ea0caff6fe5044a65e84e777b662bb6c2017cc97ba45b8c1266523687", func := "isohyet/isohyetlaw14.StealNormals", spec := "stealNormals", inPlace := ["math/bits.Sub64", "math/bits.Add64"], unfollowed := true, recurses := true, named := ["math/bits.divideError", "math/bits.overflowError"], plainKeys := false, apart := false, narrowed := true }
def StealNormalsUptoSaid : Prop := stealNormalsUptoRow.holds Tryz.pinned (OpenSpec.upto stealNormalsSpec)

/-- 'isohyetlaw15.LaceRatios', WHERE WHAT IT READS IS OF BULK AT MOST 1048576: true; the input reads as it did. -/
def laceRatiosUptoRow : OpenClaim := { program := "ytammmemfkpcpcaagreat", sum := "d590641ea0caff6fe5044a65e84e777b662bb6c2017cc97ba45b8c1266523687", func := "isohyet/isohyetlaw15.LaceRatios", spec := "laceRatios", inPlace := ["math/bits.Sub64", "math/bits.Add64"], unfollowed := true, recurses := true, named := ["math/bits.divideError", "math/bits.overflowError"], plainKeys := false, apart := false, narrowed := true }
def LaceRatiosUptoSaid : Prop := laceRatiosUptoRow.holds Tryz.pinned (OpenSpec.upto laceRatiosSpec)

end Rows
end Go.Proofs.YtammmemfkpcpcaaGreat
