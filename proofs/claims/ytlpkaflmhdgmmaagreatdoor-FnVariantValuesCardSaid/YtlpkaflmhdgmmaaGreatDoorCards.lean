/-
  DERIVED. GIVEN WITH THE SEED: THE CARDS: each row of YtlpkaflmhdgmmaaGreatDoorRows.lean that lists a variable, with what it lists TIED to the program's text (the seventh form; the later family's looks); each row that meets fmt, with fmt's text TOLD by the authors' own Lean function (tested against real Go, not proved from fmt's source: count such statements apart). THE CARD IS WHAT COUNTS. Prove the row's statement (the work); the ties are given (YtlpkaflmhdgmmaaGreatDoorTie.lean); close each card by the builder's one call (the guide's Derived/Test/ToyasCard.lean, 'card_holds'). Laid BY PROGRAM, IN A SANDBOX (cutbox-door.mjs). By AI agents, Wed Nov 11 2026. No macro, syntax, notation, axiom, sorry.
-/
import Derived.Test.YtlpkaflmhdgmmaaGreatDoorRows
import GoSem.ClaimSeven
namespace Go.Proofs.YtlpkaflmhdgmmaaGreatDoor
namespace Rows

/-- THE TIED CARD OF 'laws.FnVariantValues'. -/
def fnVariantValuesCard : Claim7 := { stood := { row := fnVariantValuesRow, standIns := [], harness := (true, "8ca721143568d16c11eb33eae4a3199461e9e4f7424bafd2c736627e202f11b7"), looks := false }, kinds := [], alts := [], laidByText := true, laidKinds := [.data], laidTests := true, laidLooks := .later }
def FnVariantValuesCardSaid : Prop := Claim7.holds Tryz.pinned (.plain (OpenSpec.ofChange fnVariantValuesSpec)) fnVariantValuesCard

/-- THE TIED CARD OF 'laws.FnExactBestHandIn'. -/
def fnExactBestHandInCard : Claim7 := { stood := { row := fnExactBestHandInRow, standIns := [], harness := (true, "8ca721143568d16c11eb33eae4a3199461e9e4f7424bafd2c736627e202f11b7"), looks := false }, kinds := [], alts := [], laidByText := true, laidKinds := [.data], laidTests := true, laidLooks := .later }
def FnExactBestHandInCardSaid : Prop := Claim7.holds Tryz.pinned (.plain (OpenSpec.ofChange fnExactBestHandInSpec)) fnExactBestHandInCard

/-- THE SECOND FORM's CARD OF 'laws.FnVariantValues'. -/
def fnVariantValuesUptoCard : Claim7 := { stood := { row := fnVariantValuesUptoRow, standIns := [], harness := (true, "8ca721143568d16c11eb33eae4a3199461e9e4f7424bafd2c736627e202f11b7"), looks := false }, kinds := [], alts := [], laidByText := true, laidKinds := [.data], laidTests := true, laidLooks := .later }
def FnVariantValuesUptoCardSaid : Prop := Claim7.holds Tryz.pinned (.plain (OpenSpec.upto fnVariantValuesSpec)) fnVariantValuesUptoCard

/-- THE SECOND FORM's CARD OF 'laws.FnExactBestHandIn'. -/
def fnExactBestHandInUptoCard : Claim7 := { stood := { row := fnExactBestHandInUptoRow, standIns := [], harness := (true, "8ca721143568d16c11eb33eae4a3199461e9e4f7424bafd2c736627e202f11b7"), looks := false }, kinds := [], alts := [], laidByText := true, laidKinds := [.data], laidTests := true, laidLooks := .later }
def FnExactBestHandInUptoCardSaid : Prop := Claim7.holds Tryz.pinned (.plain (OpenSpec.upto fnExactBestHandInSpec)) fnExactBestHandInUptoCard
end Rows
end Go.Proofs.YtlpkaflmhdgmmaaGreatDoor
