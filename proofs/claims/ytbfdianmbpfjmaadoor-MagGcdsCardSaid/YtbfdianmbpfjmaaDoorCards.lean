/-
  DERIVED. GIVEN WITH THE SEED: THE CARDS: each row of YtbfdianmbpfjmaaDoorRows.lean that lists a variable, with what it lists TIED to the program's text (the seventh form; the later family's looks); each row that meets fmt, with fmt's text TOLD by the authors' own Lean function (tested against real Go, not proved from fmt's source: count such statements apart). THE CARD IS WHAT COUNTS. Prove the row's statement (the work); the ties are given (YtbfdianmbpfjmaaDoorTie.lean); close each card by the builder's one call (the guide's Derived/Test/ToyasCard.lean, 'card_holds'). Laid BY PROGRAM, IN A SANDBOX (cutbox-door.mjs). By AI agents, Wed Nov 11 2026. No macro, syntax, notation, axiom, sorry.
-/
import Derived.Test.YtbfdianmbpfjmaaDoorRows
import GoSem.ClaimSeven
namespace Go.Proofs.YtbfdianmbpfjmaaDoor
namespace Rows

/-- THE TIED CARD OF 'isohyetlaw01.MagGcds'. -/
def magGcdsCard : Claim7 := { stood := { row := magGcdsRow, standIns := [], harness := (true, "9896554478dbd8d739644480cd892798396d52417086d619d31291374f265d37"), looks := false }, kinds := [], alts := [], laidByText := true, laidKinds := [.data], laidTests := true, laidLooks := .later }
def MagGcdsCardSaid : Prop := Claim7.holds Tryd.pinned (.plain (OpenSpec.ofChange magGcdsSpec)) magGcdsCard

/-- THE SECOND FORM's CARD OF 'isohyetlaw01.MagGcds'. -/
def magGcdsUptoCard : Claim7 := { stood := { row := magGcdsUptoRow, standIns := [], harness := (true, "9896554478dbd8d739644480cd892798396d52417086d619d31291374f265d37"), looks := false }, kinds := [], alts := [], laidByText := true, laidKinds := [.data], laidTests := true, laidLooks := .later }
def MagGcdsUptoCardSaid : Prop := Claim7.holds Tryd.pinned (.plain (OpenSpec.upto magGcdsSpec)) magGcdsUptoCard
end Rows
end Go.Proofs.YtbfdianmbpfjmaaDoor
