/-
  No cell of these rows narrows 'for every input' (looked for: loops, veiled, ifaces, maps, wideKeys, modest, calm, conditions, laid).
  DERIVED. THE GIVEN ROWS OF THIS SEAT. 9 by the template 'for every input the law returns true; each argument reads behind the call as it read before'; 0 by the template 'total and deterministic' (their statements: YtecnnpkpgbbfkaaGreatTotals.lean).
  GIVEN WITH THE SEED: the statements are not yours to turn. If you find one false, say at which input.
  Laid BY PROGRAM, IN A SANDBOX (cutbox-rows.mjs): the forced cells as the released guide's own fill.sh prints them over the translation b446ba80f520ea1a… (all of the seat's roots in one cut). By AI agents, Wed Nov 11 2026. No macro, syntax, notation, axiom, sorry.
-/
import Derived.Test.YtecnnpkpgbbfkaaGreatChecked
import GoSem.Claim
import GoSem.ClaimJoined
import GoSem.ClaimMapViews
import Derived.JoinedTies
import Derived.KernelRfl
namespace Go.Proofs.YtecnnpkpgbbfkaaGreat
/- THE CELL 'sum', in the pinned program and in every row, IS THE sha256 OF THE DUMP (.gsa) THAT YtecnnpkpgbbfkaaGreatProg.lean LOADS. Nothing in Lean hashes anything: it is a label: what it is worth is what the hold of that sum in a sandbox is worth. -/
noncomputable def Tryz.pinned : Pinned := { name := "ytecnnpkpgbbfkaagreat", sum := "b446ba80f520ea1a88126b6a8b4882e98024b2c3060ed51a1176f92eaa9efc40", checked := Tryz.checked }
namespace Rows
def none {H : Type} : Left H := { results := [], args := [] }

/-- 'isohyetlaw12.GrowBuilds': WHATEVER THE INPUT: true; the input reads as it did. -/
def growBuildsSpec : ChangeSpec := { name := "growBuilds", fn := fun _ => fun
  | [d] => { results := [.lit (.bool true)], args := [d] }
  | _ => none }
def growBuildsRow : OpenClaim := { program := "ytecnnpkpgbbfkaagreat", sum := "b446ba80f520ea1a88126b6a8b4882e98024b2c3060ed51a1176f92eaa9efc40", func := "isohyet/isohyetlaw12.GrowBuilds", spec := "growBuilds", inPlace := ["math/bits.Sub64", "math/bits.Add64"], unfollowed := true, recurses := true, plainKeys := false, apart := false }
def GrowBuildsSaid : Prop := growBuildsRow.holds Tryz.pinned (OpenSpec.ofChange growBuildsSpec)

/-- ITS FALSE NEIGHBOUR: 'it returns false'. Refute it at one input. -/
def growBuildsWrong : ChangeSpec := { name := "growBuilds", fn := fun _ => fun
  | [d] => { results := [.lit (.bool false)], args := [d] }
  | _ => none }
def GrowBuildsWrongFalsely : Prop := growBuildsRow.holds Tryz.pinned (OpenSpec.ofChange growBuildsWrong)

/-- 'isohyetlaw12.GrowOrders': WHATEVER THE INPUT: true; the input reads as it did. -/
def growOrdersSpec : ChangeSpec := { name := "growOrders", fn := fun _ => fun
  | [d1, d2] => { results := [.lit (.bool true)], args := [d1, d2] }
  | _ => none }
def growOrdersRow : OpenClaim := { program := "ytecnnpkpgbbfkaagreat", sum := "b446ba80f520ea1a88126b6a8b4882e98024b2c3060ed51a1176f92eaa9efc40", func := "isohyet/isohyetlaw12.GrowOrders", spec := "growOrders", inPlace := ["math/bits.Sub64", "math/bits.Add64"], unfollowed := true, recurses := true, plainKeys := false, apart := false }
def GrowOrdersSaid : Prop := growOrdersRow.holds Tryz.pinned (OpenSpec.ofChange growOrdersSpec)

/-- ITS FALSE NEIGHBOUR: 'it returns false'. Refute it at one input. -/
def growOrdersWrong : ChangeSpec := { name := "growOrders", fn := fun _ => fun
  | [d1, d2] => { results := [.lit (.bool false)], args := [d1, d2] }
  | _ => none }
def GrowOrdersWrongFalsely : Prop := growOrdersRow.holds Tryz.pinned (OpenSpec.ofChange growOrdersWrong)

/-- 'isohyetlaw12.GrowInserts': WHATEVER THE INPUT: true; the input reads as it did. -/
def growInsertsSpec : ChangeSpec := { name := "growInserts", fn := fun _ => fun
  | [d1, d2, d3] => { results := [.lit (.bool true)], args := [d1, d2, d3] }
  | _ => none }
def growInsertsRow : OpenClaim := { program := "ytecnnpkpgbbfkaagreat", sum := "b446ba80f520ea1a88126b6a8b4882e98024b2c3060ed51a1176f92eaa9efc40", func := "isohyet/isohyetlaw12.GrowInserts", spec := "growInserts", inPlace := ["math/bits.Sub64", "math/bits.Add64"], unfollowed := true, recurses := true, named := ["math/bits.divideError", "math/bits.overflowError"], plainKeys := false, apart := false }
def GrowInsertsSaid : Prop := growInsertsRow.holds Tryz.pinned (OpenSpec.ofChange growInsertsSpec)

/-- ITS FALSE NEIGHBOUR: 'it returns false'. Refute it at one input. -/
def growInsertsWrong : ChangeSpec := { name := "growInserts", fn := fun _ => fun
  | [d1, d2, d3] => { results := [.lit (.bool false)], args := [d1, d2, d3] }
  | _ => none }
def GrowInsertsWrongFalsely : Prop := growInsertsRow.holds Tryz.pinned (OpenSpec.ofChange growInsertsWrong)

/-- 'isohyetlaw12.GrowStars': WHATEVER THE INPUT: true; the input reads as it did. -/
def growStarsSpec : ChangeSpec := { name := "growStars", fn := fun _ => fun
  | [d1, d2, d3] => { results := [.lit (.bool true)], args := [d1, d2, d3] }
  | _ => none }
def growStarsRow : OpenClaim := { program := "ytecnnpkpgbbfkaagreat", sum := "b446ba80f520ea1a88126b6a8b4882e98024b2c3060ed51a1176f92eaa9efc40", func := "isohyet/isohyetlaw12.GrowStars", spec := "growStars", inPlace := ["math/bits.Sub64", "math/bits.Add64"], unfollowed := true, recurses := true, plainKeys := false, apart := false }
def GrowStarsSaid : Prop := growStarsRow.holds Tryz.pinned (OpenSpec.ofChange growStarsSpec)

/-- ITS FALSE NEIGHBOUR: 'it returns false'. Refute it at one input. -/
def growStarsWrong : ChangeSpec := { name := "growStars", fn := fun _ => fun
  | [d1, d2, d3] => { results := [.lit (.bool false)], args := [d1, d2, d3] }
  | _ => none }
def GrowStarsWrongFalsely : Prop := growStarsRow.holds Tryz.pinned (OpenSpec.ofChange growStarsWrong)

/-- 'isohyetlaw12.GrowBases': WHATEVER THE INPUT: true; the input reads as it did. -/
def growBasesSpec : ChangeSpec := { name := "growBases", fn := fun _ => fun
  | [d] => { results := [.lit (.bool true)], args := [d] }
  | _ => none }
def growBasesRow : OpenClaim := { program := "ytecnnpkpgbbfkaagreat", sum := "b446ba80f520ea1a88126b6a8b4882e98024b2c3060ed51a1176f92eaa9efc40", func := "isohyet/isohyetlaw12.GrowBases", spec := "growBases", inPlace := ["math/bits.Sub64", "math/bits.Add64"], unfollowed := true, recurses := true, plainKeys := false, apart := false }
def GrowBasesSaid : Prop := growBasesRow.holds Tryz.pinned (OpenSpec.ofChange growBasesSpec)

/-- ITS FALSE NEIGHBOUR: 'it returns false'. Refute it at one input. -/
def growBasesWrong : ChangeSpec := { name := "growBases", fn := fun _ => fun
  | [d] => { results := [.lit (.bool false)], args := [d] }
  | _ => none }
def GrowBasesWrongFalsely : Prop := growBasesRow.holds Tryz.pinned (OpenSpec.ofChange growBasesWrong)

/-- 'isohyetlaw13.FaultForces': WHATEVER THE INPUT: true; the input reads as it did. -/
def faultForcesSpec : ChangeSpec := { name := "faultForces", fn := fun _ => fun
  | [d1, d2, d3] => { results := [.lit (.bool true)], args := [d1, d2, d3] }
  | _ => none }
def faultForcesRow : OpenClaim := { program := "ytecnnpkpgbbfkaagreat", sum := "b446ba80f520ea1a88126b6a8b4882e98024b2c3060ed51a1176f92eaa9efc40", func := "isohyet/isohyetlaw13.FaultForces", spec := "faultForces", inPlace := ["math/bits.Sub64", "math/bits.Add64"], unfollowed := true, recurses := true, named := ["math/bits.divideError", "math/bits.overflowError"], plainKeys := false, apart := false }
def FaultForcesSaid : Prop := faultForcesRow.holds Tryz.pinned (OpenSpec.ofChange faultForcesSpec)

/-- ITS FALSE NEIGHBOUR: 'it returns false'. Refute it at one input. -/
def faultForcesWrong : ChangeSpec := { name := "faultForces", fn := fun _ => fun
  | [d1, d2, d3] => { results := [.lit (.bool false)], args := [d1, d2, d3] }
  | _ => none }
def FaultForcesWrongFalsely : Prop := faultForcesRow.holds Tryz.pinned (OpenSpec.ofChange faultForcesWrong)

/-- 'isohyetlaw13.FaultOrders': WHATEVER THE INPUT: true; the input reads as it did. -/
def faultOrdersSpec : ChangeSpec := { name := "faultOrders", fn := fun _ => fun
  | [d1, d2] => { results := [.lit (.bool true)], args := [d1, d2] }
  | _ => none }
def faultOrdersRow : OpenClaim := { program := "ytecnnpkpgbbfkaagreat", sum := "b446ba80f520ea1a88126b6a8b4882e98024b2c3060ed51a1176f92eaa9efc40", func := "isohyet/isohyetlaw13.FaultOrders", spec := "faultOrders", inPlace := ["math/bits.Sub64", "math/bits.Add64"], unfollowed := true, recurses := true, plainKeys := false, apart := false }
def FaultOrdersSaid : Prop := faultOrdersRow.holds Tryz.pinned (OpenSpec.ofChange faultOrdersSpec)

/-- ITS FALSE NEIGHBOUR: 'it returns false'. Refute it at one input. -/
def faultOrdersWrong : ChangeSpec := { name := "faultOrders", fn := fun _ => fun
  | [d1, d2] => { results := [.lit (.bool false)], args := [d1, d2] }
  | _ => none }
def FaultOrdersWrongFalsely : Prop := faultOrdersRow.holds Tryz.pinned (OpenSpec.ofChange faultOrdersWrong)

/-- 'isohyetlaw13.FaultLater': WHATEVER THE INPUT: true; the input reads as it did. -/
def faultLaterSpec : ChangeSpec := { name := "faultLater", fn := fun _ => fun
  | [d1, d2, d3] => { results := [.lit (.bool true)], args := [d1, d2, d3] }
  | _ => none }
def faultLaterRow : OpenClaim := { program := "ytecnnpkpgbbfkaagreat", sum := "b446ba80f520ea1a88126b6a8b4882e98024b2c3060ed51a1176f92eaa9efc40", func := "isohyet/isohyetlaw13.FaultLater", spec := "faultLater", inPlace := ["math/bits.Sub64", "math/bits.Add64"], unfollowed := true, recurses := true, named := ["math/bits.divideError", "math/bits.overflowError"], plainKeys := false, apart := false }
def FaultLaterSaid : Prop := faultLaterRow.holds Tryz.pinned (OpenSpec.ofChange faultLaterSpec)

/-- ITS FALSE NEIGHBOUR: 'it returns false'. Refute it at one input. -/
def faultLaterWrong : ChangeSpec := { name := "faultLater", fn := fun _ => fun
  | [d1, d2, d3] => { results := [.lit (.bool false)], args := [d1, d2, d3] }
  | _ => none }
def FaultLaterWrongFalsely : Prop := faultLaterRow.holds Tryz.pinned (OpenSpec.ofChange faultLaterWrong)

/-- 'isohyetlaw13.FaultPoints': WHATEVER THE INPUT: true; the input reads as it did. -/
def faultPointsSpec : ChangeSpec := { name := "faultPoints", fn := fun _ => fun
  | [d1, d2, d3] => { results := [.lit (.bool true)], args := [d1, d2, d3] }
  | _ => none }
def faultPointsRow : OpenClaim := { program := "ytecnnpkpgbbfkaagreat", sum := "b446ba80f520ea1a88126b6a8b4882e98024b2c3060ed51a1176f92eaa9efc40", func := "isohyet/isohyetlaw13.FaultPoints", spec := "faultPoints", inPlace := ["math/bits.Sub64", "math/bits.Add64"], unfollowed := true, recurses := true, plainKeys := false, apart := false }
def FaultPointsSaid : Prop := faultPointsRow.holds Tryz.pinned (OpenSpec.ofChange faultPointsSpec)

/-- ITS FALSE NEIGHBOUR: 'it returns false'. Refute it at one input. -/
def faultPointsWrong : ChangeSpec := { name := "faultPoints", fn := fun _ => fun
  | [d1, d2, d3] => { results := [.lit (.bool false)], args := [d1, d2, d3] }
  | _ => none }
def FaultPointsWrongFalsely : Prop := faultPointsRow.holds Tryz.pinned (OpenSpec.ofChange faultPointsWrong)

/- THE SECOND FORM. 'bulk': how many values and letters a reading holds, each counted each time it is reached (what is shared counts as often as it is met; a slice's spare places count too). A statement '..UptoSaid' is the law's where the arguments, and the package variables that the reading takes, are together of bulk at most 1048576: NARROWER than '..Said'. Prove '..Said' where nothing that the law and all that it calls make is longer than what came in: it says more and counts as full. Else prove '..UptoSaid'. A law counts once. -/
mutual
def uptoBulk {H : Type} : DataW H → Nat
  | .lit (.string bytes) => bytes.length + 1
  | .lit _ => 1
  | .nil => 1
  | .ptr d => uptoBulk d + 1
  | .slice elems spare => uptoBulkAll elems + uptoBulkAll spare + 1
  | .agg parts => uptoBulkAll parts + 1
  | .iface _ d => uptoBulk d + 1
  | .map entries => uptoBulkEntries entries + 1
  | .held _ => 1
def uptoBulkAll {H : Type} : List (DataW H) → Nat
  | [] => 0
  | d :: r => uptoBulk d + uptoBulkAll r
def uptoBulkEntries {H : Type} : List (Lit × DataW H) → Nat
  | [] => 0
  | x :: r => uptoBulkEntry x + uptoBulkEntries r
def uptoBulkEntry {H : Type} : Lit × DataW H → Nat
  | (.string bytes, d) => bytes.length + uptoBulk d + 1
  | (_, d) => uptoBulk d + 1
 end
def uptoSmall : (H : Type) → List (DataW H) → Bool := fun _ ds => decide (uptoBulkAll ds ≤ 1048576)
def OpenSpec.upto (s : _root_.Go.ChangeSpec) : _root_.Go.OpenSpec := { _root_.Go.OpenSpec.ofChange s with cond := some uptoSmall }

/-- 'isohyetlaw12.GrowBuilds', WHERE WHAT IT READS IS OF BULK AT MOST 1048576: true; the input reads as it did. -/
def growBuildsUptoRow : OpenClaim := { program := "ytecnnpkpgbbfkaagreat", sum := "b446ba80f520ea1a88126b6a8b4882e98024b2c3060ed51a1176f92eaa9efc40", func := "isohyet/isohyetlaw12.GrowBuilds", spec := "growBuilds", inPlace := ["math/bits.Sub64", "math/bits.Add64"], unfollowed := true, recurses := true, plainKeys := false, apart := false, narrowed := true }
def GrowBuildsUptoSaid : Prop := growBuildsUptoRow.holds Tryz.pinned (OpenSpec.upto growBuildsSpec)

/-- 'isohyetlaw12.GrowOrders', WHERE WHAT IT READS IS OF BULK AT MOST 1048576: true; the input reads as it did. -/
def growOrdersUptoRow : OpenClaim := { program := "ytecnnpkpgbbfkaagreat", sum := "b446ba80f520ea1a88126b6a8b4882e98024b2c3060ed51a1176f92eaa9efc40", func := "isohyet/isohyetlaw12.GrowOrders", spec := "growOrders", inPlace := ["math/bits.Sub64", "math/bits.Add64"], unfollowed := true, recurses := true, plainKeys := false, apart := false, narrowed := true }
def GrowOrdersUptoSaid : Prop := growOrdersUptoRow.holds Tryz.pinned (OpenSpec.upto growOrdersSpec)

/-- 'isohyetlaw12.GrowInserts', WHERE WHAT IT READS IS OF BULK AT MOST 1048576: true; the input reads as it did. -/
def growInsertsUptoRow : OpenClaim := { program := "ytecnnpkpgbbfkaagreat", sum := "b446ba80f520ea1a88126b6a8b4882e98024b2c3060ed51a1176f92eaa9efc40", func := "isohyet/isohyetlaw12.GrowInserts", spec := "growInserts", inPlace := ["math/bits.Sub64", "math/bits.Add64"], unfollowed := true, recurses := true, named := ["math/bits.divideError", "math/bits.overflowError"], plainKeys := false, apart := false, narrowed := true }
def GrowInsertsUptoSaid : Prop := growInsertsUptoRow.holds Tryz.pinned (OpenSpec.upto growInsertsSpec)

/-- 'isohyetlaw12.GrowStars', WHERE WHAT IT READS IS OF BULK AT MOST 1048576: true; the input reads as it did. -/
def growStarsUptoRow : OpenClaim := { program := "ytecnnpkpgbbfkaagreat", sum := "b446ba80f520ea1a88126b6a8b4882e98024b2c3060ed51a1176f92eaa9efc40", func := "isohyet/isohyetlaw12.GrowStars", spec := "growStars", inPlace := ["math/bits.Sub64", "math/bits.Add64"], unfollowed := true, recurses := true, plainKeys := false, apart := false, narrowed := true }
def GrowStarsUptoSaid : Prop := growStarsUptoRow.holds Tryz.pinned (OpenSpec.upto growStarsSpec)

/-- 'isohyetlaw12.GrowBases', WHERE WHAT IT READS IS OF BULK AT MOST 1048576: true; the input reads as it did. -/
def growBasesUptoRow : OpenClaim := { program := "ytecnnpkpgbbfkaagreat", sum := "b446ba80f520ea1a88126b6a8b4882e98024b2c3060ed51a1176f92eaa9efc40", func := "isohyet/isohyetlaw12.GrowBases", spec := "growBases", inPlace := ["math/bits.Sub64", "math/bits.Add64"], unfollowed := true, recurses := true, plainKeys := false, apart := false, narrowed := true }
def GrowBasesUptoSaid : Prop := growBasesUptoRow.holds Tryz.pinned (OpenSpec.upto growBasesSpec)

/-- 'isohyetlaw13.FaultForces', WHERE WHAT IT READS IS OF BULK AT MOST 1048576: true; the input reads as it did. -/
def faultForcesUptoRow : OpenClaim := { program := "ytecnnpkpgbbfkaagreat", sum := "b446ba80f520ea1a88126b6a8b4882e98024b2c3060ed51a1176f92eaa9efc40", func := "isohyet/isohyetlaw13.FaultForces", spec := "faultForces", inPlace := ["math/bits.Sub64", "math/bits.Add64"], unfollowed := true, recurses := true, named := ["math/bits.divideError", "math/bits.overflowError"], plainKeys := false, apart := false, narrowed := true }
def FaultForcesUptoSaid : Prop := faultForcesUptoRow.holds Tryz.pinned (OpenSpec.upto faultForcesSpec)

/-- 'isohyetlaw13.FaultOrders', WHERE WHAT IT READS IS OF BULK AT MOST 1048576: true; the input reads as it did. -/
def faultOrdersUptoRow : OpenClaim := { program := "ytecnnpkpgbbfkaagreat", sum := "b446ba80f520ea1a88126b6a8b4882e98024b2c3060ed51a1176f92eaa9efc40", func := "isohyet/isohyetlaw13.FaultOrders", spec := "faultOrders", inPlace := ["math/bits.Sub64", "math/bits.Add64"], unfollowed := true, recurses := true, plainKeys := false, apart := false, narrowed := true }
def FaultOrdersUptoSaid : Prop := faultOrdersUptoRow.holds Tryz.pinned (OpenSpec.upto faultOrdersSpec)

/-- 'isohyetlaw13.FaultLater', WHERE WHAT IT READS IS OF BULK AT MOST 1048576: true; the input reads as it did. -/
def faultLaterUptoRow : OpenClaim := { program := "ytecnnpkpgbbfkaagreat", sum := "b446ba80f520ea1a88126b6a8b4882e98024b2c3060ed51a1176f92eaa9efc40", func := "isohyet/isohyetlaw13.FaultLater", spec := "faultLater", inPlace := ["math/bits.Sub64", "math/bits.Add64"], unfollowed := true, recurses := true, named := ["math/bits.divideError", "math/bits.overflowError"], plainKeys := false, apart := false, narrowed := true }
def FaultLaterUptoSaid : Prop := faultLaterUptoRow.holds Tryz.pinned (OpenSpec.upto faultLaterSpec)

/-- 'isohyetlaw13.FaultPoints', WHERE WHAT IT READS IS OF BULK AT MOST 1048576: true; the input reads as it did. -/
def faultPointsUptoRow : OpenClaim := { program := "ytecnnpkpgbbfkaagreat", sum := "b446ba80f520ea1a88126b6a8b4882e98024b2c3060ed51a1176f92eaa9efc40", func := "isohyet/isohyetlaw13.FaultPoints", spec := "faultPoints", inPlace := ["math/bits.Sub64", "math/bits.Add64"], unfollowed := true, recurses := true, plainKeys := false, apart := false, narrowed := true }
def FaultPointsUptoSaid : Prop := faultPointsUptoRow.holds Tryz.pinned (OpenSpec.upto faultPointsSpec)

end Rows
end Go.Proofs.YtecnnpkpgbbfkaaGreat
