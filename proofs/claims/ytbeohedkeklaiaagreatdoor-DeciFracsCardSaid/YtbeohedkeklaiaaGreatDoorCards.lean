/-
  DERIVED. GIVEN WITH THE SEED: THE CARDS: each row of YtbeohedkeklaiaaGreatDoorRows.lean that lists a variable, with what it lists TIED to the program's text (the seventh form; the later family's looks); each row that meets fmt, with fmt's text TOLD by the authors' own Lean function (tested against real Go, not proved from fmt's source: count such statements apart). THE CARD IS WHAT COUNTS. Prove the row's statement (the work); the ties are given (YtbeohedkeklaiaaGreatDoorTie.lean); close each card by the builder's one call (the guide's Derived/Test/ToyasCard.lean, 'card_holds'). Laid BY PROGRAM, IN A SANDBOX (cutbox-door.mjs). By AI agents, Wed Nov 11 2026. No macro, syntax, notation, axiom, sorry.
-/
import Derived.Test.YtbeohedkeklaiaaGreatDoorRows
import GoSem.ClaimSeven
namespace Go.Proofs.YtbeohedkeklaiaaGreatDoor
namespace Rows

/-- THE TIED CARD OF 'isohyetlaw04.DeciParses'. -/
def deciParsesCard : Claim7 := { stood := { row := deciParsesRow, standIns := [], harness := (true, "185dc7afad8c14f06dfd5971f1be2871c257cd549898376be7a9a4adcbd00720"), looks := false }, kinds := [], alts := [], laidByText := true, laidKinds := [.data, .data, .data, .data, .pinned], laidTests := true, laidLooks := .later }
def DeciParsesCardSaid : Prop := Claim7.holds Tryz.pinned (.plain (OpenSpec.ofChange deciParsesSpec)) deciParsesCard

/-- THE TIED CARD OF 'isohyetlaw04.DeciTexts'. -/
def deciTextsCard : Claim7 := { stood := { row := deciTextsRow, standIns := [], harness := (true, "185dc7afad8c14f06dfd5971f1be2871c257cd549898376be7a9a4adcbd00720"), looks := false }, kinds := [], alts := [], laidByText := true, laidKinds := [.data, .data, .data, .data, .pinned], laidTests := true, laidLooks := .later }
def DeciTextsCardSaid : Prop := Claim7.holds Tryz.pinned (.plain (OpenSpec.ofChange deciTextsSpec)) deciTextsCard

/-- THE TIED CARD OF 'isohyetlaw04.DeciWholes'. -/
def deciWholesCard : Claim7 := { stood := { row := deciWholesRow, standIns := [], harness := (true, "185dc7afad8c14f06dfd5971f1be2871c257cd549898376be7a9a4adcbd00720"), looks := false }, kinds := [], alts := [], laidByText := true, laidKinds := [.data, .data, .data, .data, .pinned], laidTests := true, laidLooks := .later }
def DeciWholesCardSaid : Prop := Claim7.holds Tryz.pinned (.plain (OpenSpec.ofChange deciWholesSpec)) deciWholesCard

/-- THE TIED CARD OF 'isohyetlaw04.DeciFracs'. -/
def deciFracsCard : Claim7 := { stood := { row := deciFracsRow, standIns := [], harness := (true, "185dc7afad8c14f06dfd5971f1be2871c257cd549898376be7a9a4adcbd00720"), looks := false }, kinds := [], alts := [], laidByText := true, laidKinds := [.data, .data, .data, .data, .pinned], laidTests := true, laidLooks := .later }
def DeciFracsCardSaid : Prop := Claim7.holds Tryz.pinned (.plain (OpenSpec.ofChange deciFracsSpec)) deciFracsCard

/-- THE TIED CARD OF 'isohyetlaw04.DeciRounds'. -/
def deciRoundsCard : Claim7 := { stood := { row := deciRoundsRow, standIns := [], harness := (true, "185dc7afad8c14f06dfd5971f1be2871c257cd549898376be7a9a4adcbd00720"), looks := false }, kinds := [], alts := [], laidByText := true, laidKinds := [.data, .data, .data, .data, .pinned], laidTests := true, laidLooks := .later }
def DeciRoundsCardSaid : Prop := Claim7.holds Tryz.pinned (.plain (OpenSpec.ofChange deciRoundsSpec)) deciRoundsCard

/-- THE TIED CARD OF 'isohyetlaw04.DeciUnits'. -/
def deciUnitsCard : Claim7 := { stood := { row := deciUnitsRow, standIns := [], harness := (true, "185dc7afad8c14f06dfd5971f1be2871c257cd549898376be7a9a4adcbd00720"), looks := false }, kinds := [], alts := [], laidByText := true, laidKinds := [.data, .data, .data, .data, .pinned], laidTests := true, laidLooks := .later }
def DeciUnitsCardSaid : Prop := Claim7.holds Tryz.pinned (.plain (OpenSpec.ofChange deciUnitsSpec)) deciUnitsCard

/-- THE TIED CARD OF 'isohyetlaw04.DeciZeros'. -/
def deciZerosCard : Claim7 := { stood := { row := deciZerosRow, standIns := [], harness := (true, "185dc7afad8c14f06dfd5971f1be2871c257cd549898376be7a9a4adcbd00720"), looks := false }, kinds := [], alts := [], laidByText := true, laidKinds := [.data, .data, .data, .data, .pinned], laidTests := true, laidLooks := .later }
def DeciZerosCardSaid : Prop := Claim7.holds Tryz.pinned (.plain (OpenSpec.ofChange deciZerosSpec)) deciZerosCard

/-- THE SECOND FORM's CARD OF 'isohyetlaw04.DeciParses'. -/
def deciParsesUptoCard : Claim7 := { stood := { row := deciParsesUptoRow, standIns := [], harness := (true, "185dc7afad8c14f06dfd5971f1be2871c257cd549898376be7a9a4adcbd00720"), looks := false }, kinds := [], alts := [], laidByText := true, laidKinds := [.data, .data, .data, .data, .pinned], laidTests := true, laidLooks := .later }
def DeciParsesUptoCardSaid : Prop := Claim7.holds Tryz.pinned (.plain (OpenSpec.upto deciParsesSpec)) deciParsesUptoCard

/-- THE SECOND FORM's CARD OF 'isohyetlaw04.DeciTexts'. -/
def deciTextsUptoCard : Claim7 := { stood := { row := deciTextsUptoRow, standIns := [], harness := (true, "185dc7afad8c14f06dfd5971f1be2871c257cd549898376be7a9a4adcbd00720"), looks := false }, kinds := [], alts := [], laidByText := true, laidKinds := [.data, .data, .data, .data, .pinned], laidTests := true, laidLooks := .later }
def DeciTextsUptoCardSaid : Prop := Claim7.holds Tryz.pinned (.plain (OpenSpec.upto deciTextsSpec)) deciTextsUptoCard

/-- THE SECOND FORM's CARD OF 'isohyetlaw04.DeciWholes'. -/
def deciWholesUptoCard : Claim7 := { stood := { row := deciWholesUptoRow, standIns := [], harness := (true, "185dc7afad8c14f06dfd5971f1be2871c257cd549898376be7a9a4adcbd00720"), looks := false }, kinds := [], alts := [], laidByText := true, laidKinds := [.data, .data, .data, .data, .pinned], laidTests := true, laidLooks := .later }
def DeciWholesUptoCardSaid : Prop := Claim7.holds Tryz.pinned (.plain (OpenSpec.upto deciWholesSpec)) deciWholesUptoCard

/-- THE SECOND FORM's CARD OF 'isohyetlaw04.DeciFracs'. -/
def deciFracsUptoCard : Claim7 := { stood := { row := deciFracsUptoRow, standIns := [], harness := (true, "185dc7afad8c14f06dfd5971f1be2871c257cd549898376be7a9a4adcbd00720"), looks := false }, kinds := [], alts := [], laidByText := true, laidKinds := [.data, .data, .data, .data, .pinned], laidTests := true, laidLooks := .later }
def DeciFracsUptoCardSaid : Prop := Claim7.holds Tryz.pinned (.plain (OpenSpec.upto deciFracsSpec)) deciFracsUptoCard

/-- THE SECOND FORM's CARD OF 'isohyetlaw04.DeciRounds'. -/
def deciRoundsUptoCard : Claim7 := { stood := { row := deciRoundsUptoRow, standIns := [], harness := (true, "185dc7afad8c14f06dfd5971f1be2871c257cd549898376be7a9a4adcbd00720"), looks := false }, kinds := [], alts := [], laidByText := true, laidKinds := [.data, .data, .data, .data, .pinned], laidTests := true, laidLooks := .later }
def DeciRoundsUptoCardSaid : Prop := Claim7.holds Tryz.pinned (.plain (OpenSpec.upto deciRoundsSpec)) deciRoundsUptoCard

/-- THE SECOND FORM's CARD OF 'isohyetlaw04.DeciUnits'. -/
def deciUnitsUptoCard : Claim7 := { stood := { row := deciUnitsUptoRow, standIns := [], harness := (true, "185dc7afad8c14f06dfd5971f1be2871c257cd549898376be7a9a4adcbd00720"), looks := false }, kinds := [], alts := [], laidByText := true, laidKinds := [.data, .data, .data, .data, .pinned], laidTests := true, laidLooks := .later }
def DeciUnitsUptoCardSaid : Prop := Claim7.holds Tryz.pinned (.plain (OpenSpec.upto deciUnitsSpec)) deciUnitsUptoCard

/-- THE SECOND FORM's CARD OF 'isohyetlaw04.DeciZeros'. -/
def deciZerosUptoCard : Claim7 := { stood := { row := deciZerosUptoRow, standIns := [], harness := (true, "185dc7afad8c14f06dfd5971f1be2871c257cd549898376be7a9a4adcbd00720"), looks := false }, kinds := [], alts := [], laidByText := true, laidKinds := [.data, .data, .data, .data, .pinned], laidTests := true, laidLooks := .later }
def DeciZerosUptoCardSaid : Prop := Claim7.holds Tryz.pinned (.plain (OpenSpec.upto deciZerosSpec)) deciZerosUptoCard
end Rows
end Go.Proofs.YtbeohedkeklaiaaGreatDoor
