/-
  DERIVED. GIVEN WITH THE SEED: THE CARDS: each row of YtjchjjnmahddiaaDoorRows.lean that lists a variable, with what it lists TIED to the program's text (the seventh form; the later family's looks); each row that meets fmt, with fmt's text TOLD by the authors' own Lean function (tested against real Go, not proved from fmt's source: count such statements apart). THE CARD IS WHAT COUNTS. Prove the row's statement (the work); the ties are given (YtjchjjnmahddiaaDoorTie.lean); close each card by the builder's one call (the guide's Derived/Test/ToyasCard.lean, 'card_holds'). Laid BY PROGRAM, IN A SANDBOX (cutbox-door.mjs). By AI agents, Wed Nov 11 2026. No macro, syntax, notation, axiom, sorry.
-/
import Derived.Test.YtjchjjnmahddiaaDoorRows
import GoSem.ClaimSeven
namespace Go.Proofs.YtjchjjnmahddiaaDoor
namespace Rows

/-- THE TIED CARD OF 'laws.FnExactStandardVariant'. -/
def fnExactStandardVariantCard : Claim7 := { stood := { row := fnExactStandardVariantRow, standIns := [], harness := (true, "5e4194de3061b7c3064284f08ef9b60cdff0d1e82afd53acd6e090163bf65dcd"), looks := false }, kinds := [], alts := [], laidByText := true, laidKinds := [.data], laidTests := true, laidLooks := .later }
def FnExactStandardVariantCardSaid : Prop := Claim7.holds Tryd.pinned (.plain (OpenSpec.ofChange fnExactStandardVariantSpec)) fnExactStandardVariantCard

/-- THE TIED CARD OF 'laws.FnExactVariantNamed'. -/
def fnExactVariantNamedCard : Claim7 := { stood := { row := fnExactVariantNamedRow, standIns := [], harness := (true, "5e4194de3061b7c3064284f08ef9b60cdff0d1e82afd53acd6e090163bf65dcd"), looks := false }, kinds := [], alts := [], laidByText := true, laidKinds := [.data], laidTests := true, laidLooks := .later }
def FnExactVariantNamedCardSaid : Prop := Claim7.holds Tryd.pinned (.plain (OpenSpec.ofChange fnExactVariantNamedSpec)) fnExactVariantNamedCard

/-- THE TIED CARD OF 'laws.FnVariantNames'. -/
def fnVariantNamesCard : Claim7 := { stood := { row := fnVariantNamesRow, standIns := [], harness := (true, "5e4194de3061b7c3064284f08ef9b60cdff0d1e82afd53acd6e090163bf65dcd"), looks := false }, kinds := [], alts := [], laidByText := true, laidKinds := [.data], laidTests := true, laidLooks := .later }
def FnVariantNamesCardSaid : Prop := Claim7.holds Tryd.pinned (.plain (OpenSpec.ofChange fnVariantNamesSpec)) fnVariantNamesCard

/-- THE TIED CARD OF 'laws.FnExactHighIn'. -/
def fnExactHighInCard : Claim7 := { stood := { row := fnExactHighInRow, standIns := [], harness := (true, "5e4194de3061b7c3064284f08ef9b60cdff0d1e82afd53acd6e090163bf65dcd"), looks := false }, kinds := [], alts := [], laidByText := true, laidKinds := [.data], laidTests := true, laidLooks := .later }
def FnExactHighInCardSaid : Prop := Claim7.holds Tryd.pinned (.plain (OpenSpec.ofChange fnExactHighInSpec)) fnExactHighInCard

/-- THE TIED CARD OF 'laws.FnExactBestFive'. -/
def fnExactBestFiveCard : Claim7 := { stood := { row := fnExactBestFiveRow, standIns := [], harness := (true, "5e4194de3061b7c3064284f08ef9b60cdff0d1e82afd53acd6e090163bf65dcd"), looks := false }, kinds := [], alts := [], laidByText := true, laidKinds := [.data], laidTests := true, laidLooks := .later }
def FnExactBestFiveCardSaid : Prop := Claim7.holds Tryd.pinned (.plain (OpenSpec.ofChange fnExactBestFiveSpec)) fnExactBestFiveCard

/-- THE TIED CARD OF 'laws.FnBestHands'. -/
def fnBestHandsCard : Claim7 := { stood := { row := fnBestHandsRow, standIns := [], harness := (true, "5e4194de3061b7c3064284f08ef9b60cdff0d1e82afd53acd6e090163bf65dcd"), looks := false }, kinds := [], alts := [], laidByText := true, laidKinds := [.data], laidTests := true, laidLooks := .later }
def FnBestHandsCardSaid : Prop := Claim7.holds Tryd.pinned (.plain (OpenSpec.ofChange fnBestHandsSpec)) fnBestHandsCard

/-- THE SECOND FORM's CARD OF 'laws.FnExactStandardVariant'. -/
def fnExactStandardVariantUptoCard : Claim7 := { stood := { row := fnExactStandardVariantUptoRow, standIns := [], harness := (true, "5e4194de3061b7c3064284f08ef9b60cdff0d1e82afd53acd6e090163bf65dcd"), looks := false }, kinds := [], alts := [], laidByText := true, laidKinds := [.data], laidTests := true, laidLooks := .later }
def FnExactStandardVariantUptoCardSaid : Prop := Claim7.holds Tryd.pinned (.plain (OpenSpec.upto fnExactStandardVariantSpec)) fnExactStandardVariantUptoCard

/-- THE SECOND FORM's CARD OF 'laws.FnExactVariantNamed'. -/
def fnExactVariantNamedUptoCard : Claim7 := { stood := { row := fnExactVariantNamedUptoRow, standIns := [], harness := (true, "5e4194de3061b7c3064284f08ef9b60cdff0d1e82afd53acd6e090163bf65dcd"), looks := false }, kinds := [], alts := [], laidByText := true, laidKinds := [.data], laidTests := true, laidLooks := .later }
def FnExactVariantNamedUptoCardSaid : Prop := Claim7.holds Tryd.pinned (.plain (OpenSpec.upto fnExactVariantNamedSpec)) fnExactVariantNamedUptoCard

/-- THE SECOND FORM's CARD OF 'laws.FnVariantNames'. -/
def fnVariantNamesUptoCard : Claim7 := { stood := { row := fnVariantNamesUptoRow, standIns := [], harness := (true, "5e4194de3061b7c3064284f08ef9b60cdff0d1e82afd53acd6e090163bf65dcd"), looks := false }, kinds := [], alts := [], laidByText := true, laidKinds := [.data], laidTests := true, laidLooks := .later }
def FnVariantNamesUptoCardSaid : Prop := Claim7.holds Tryd.pinned (.plain (OpenSpec.upto fnVariantNamesSpec)) fnVariantNamesUptoCard

/-- THE SECOND FORM's CARD OF 'laws.FnExactHighIn'. -/
def fnExactHighInUptoCard : Claim7 := { stood := { row := fnExactHighInUptoRow, standIns := [], harness := (true, "5e4194de3061b7c3064284f08ef9b60cdff0d1e82afd53acd6e090163bf65dcd"), looks := false }, kinds := [], alts := [], laidByText := true, laidKinds := [.data], laidTests := true, laidLooks := .later }
def FnExactHighInUptoCardSaid : Prop := Claim7.holds Tryd.pinned (.plain (OpenSpec.upto fnExactHighInSpec)) fnExactHighInUptoCard

/-- THE SECOND FORM's CARD OF 'laws.FnExactBestFive'. -/
def fnExactBestFiveUptoCard : Claim7 := { stood := { row := fnExactBestFiveUptoRow, standIns := [], harness := (true, "5e4194de3061b7c3064284f08ef9b60cdff0d1e82afd53acd6e090163bf65dcd"), looks := false }, kinds := [], alts := [], laidByText := true, laidKinds := [.data], laidTests := true, laidLooks := .later }
def FnExactBestFiveUptoCardSaid : Prop := Claim7.holds Tryd.pinned (.plain (OpenSpec.upto fnExactBestFiveSpec)) fnExactBestFiveUptoCard

/-- THE SECOND FORM's CARD OF 'laws.FnBestHands'. -/
def fnBestHandsUptoCard : Claim7 := { stood := { row := fnBestHandsUptoRow, standIns := [], harness := (true, "5e4194de3061b7c3064284f08ef9b60cdff0d1e82afd53acd6e090163bf65dcd"), looks := false }, kinds := [], alts := [], laidByText := true, laidKinds := [.data], laidTests := true, laidLooks := .later }
def FnBestHandsUptoCardSaid : Prop := Claim7.holds Tryd.pinned (.plain (OpenSpec.upto fnBestHandsSpec)) fnBestHandsUptoCard
end Rows
end Go.Proofs.YtjchjjnmahddiaaDoor
