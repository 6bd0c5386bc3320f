/-
  DERIVED. GIVEN WITH THE SEED: THE CARDS: each row of YtcbfmfkahgfjkaaDoorRows.lean that lists a variable, with what it lists TIED to the program's text (the seventh form; the later family's looks); each row that meets fmt, with fmt's text TOLD by the authors' own Lean function (tested against real Go, not proved from fmt's source: count such statements apart). THE CARD IS WHAT COUNTS. Prove the row's statement (the work); the ties are given (YtcbfmfkahgfjkaaDoorTie.lean); close each card by the builder's one call (the guide's Derived/Test/ToyasCard.lean, 'card_holds'). Laid BY PROGRAM, IN A SANDBOX (cutbox-door.mjs). By AI agents, Wed Nov 11 2026. No macro, syntax, notation, axiom, sorry.
-/
import Derived.Test.YtcbfmfkahgfjkaaDoorRows
import GoSem.ClaimSeven
namespace Go.Proofs.YtcbfmfkahgfjkaaDoor
namespace Rows

/-- THE TIED CARD OF 'laws.FnExactHighValue'. -/
def fnExactHighValueCard : Claim7 := { stood := { row := fnExactHighValueRow, standIns := [], harness := (true, "cdedf4f819e83a200a0450c4a0ed4964fb591e67028366a9d6f5d35e8d381f9b"), looks := false }, kinds := [], alts := [], laidByText := true, laidKinds := [.data], laidTests := true, laidLooks := .later }
def FnExactHighValueCardSaid : Prop := Claim7.holds Tryd.pinned (.plain (OpenSpec.ofChange fnExactHighValueSpec)) fnExactHighValueCard

/-- THE TIED CARD OF 'laws.FnExactCategoryOf'. -/
def fnExactCategoryOfCard : Claim7 := { stood := { row := fnExactCategoryOfRow, standIns := [], harness := (true, "cdedf4f819e83a200a0450c4a0ed4964fb591e67028366a9d6f5d35e8d381f9b"), looks := false }, kinds := [], alts := [], laidByText := true, laidKinds := [.data], laidTests := true, laidLooks := .later }
def FnExactCategoryOfCardSaid : Prop := Claim7.holds Tryd.pinned (.plain (OpenSpec.ofChange fnExactCategoryOfSpec)) fnExactCategoryOfCard

/-- THE TIED CARD OF 'laws.FnExactKickersOf'. -/
def fnExactKickersOfCard : Claim7 := { stood := { row := fnExactKickersOfRow, standIns := [], harness := (true, "cdedf4f819e83a200a0450c4a0ed4964fb591e67028366a9d6f5d35e8d381f9b"), looks := false }, kinds := [], alts := [], laidByText := true, laidKinds := [.data], laidTests := true, laidLooks := .later }
def FnExactKickersOfCardSaid : Prop := Claim7.holds Tryd.pinned (.plain (OpenSpec.ofChange fnExactKickersOfSpec)) fnExactKickersOfCard

/-- THE TIED CARD OF 'laws.FnExactBestHigh'. -/
def fnExactBestHighCard : Claim7 := { stood := { row := fnExactBestHighRow, standIns := [], harness := (true, "cdedf4f819e83a200a0450c4a0ed4964fb591e67028366a9d6f5d35e8d381f9b"), looks := false }, kinds := [], alts := [], laidByText := true, laidKinds := [.data], laidTests := true, laidLooks := .later }
def FnExactBestHighCardSaid : Prop := Claim7.holds Tryd.pinned (.plain (OpenSpec.ofChange fnExactBestHighSpec)) fnExactBestHighCard

/-- THE TIED CARD OF 'laws.FnExactBestFive'. -/
def fnExactBestFiveCard : Claim7 := { stood := { row := fnExactBestFiveRow, standIns := [], harness := (true, "cdedf4f819e83a200a0450c4a0ed4964fb591e67028366a9d6f5d35e8d381f9b"), looks := false }, kinds := [], alts := [], laidByText := true, laidKinds := [.data], laidTests := true, laidLooks := .later }
def FnExactBestFiveCardSaid : Prop := Claim7.holds Tryd.pinned (.plain (OpenSpec.ofChange fnExactBestFiveSpec)) fnExactBestFiveCard

/-- THE TIED CARD OF 'laws.FnExactCompareHigh'. -/
def fnExactCompareHighCard : Claim7 := { stood := { row := fnExactCompareHighRow, standIns := [], harness := (true, "cdedf4f819e83a200a0450c4a0ed4964fb591e67028366a9d6f5d35e8d381f9b"), looks := false }, kinds := [], alts := [], laidByText := true, laidKinds := [.data], laidTests := true, laidLooks := .later }
def FnExactCompareHighCardSaid : Prop := Claim7.holds Tryd.pinned (.plain (OpenSpec.ofChange fnExactCompareHighSpec)) fnExactCompareHighCard

/-- THE TIED CARD OF 'laws.FnExactCategoryName'. -/
def fnExactCategoryNameCard : Claim7 := { stood := { row := fnExactCategoryNameRow, standIns := [], harness := (true, "cdedf4f819e83a200a0450c4a0ed4964fb591e67028366a9d6f5d35e8d381f9b"), looks := false }, kinds := [], alts := [], laidByText := true, laidKinds := [.data], laidTests := true, laidLooks := .later }
def FnExactCategoryNameCardSaid : Prop := Claim7.holds Tryd.pinned (.plain (OpenSpec.ofChange fnExactCategoryNameSpec)) fnExactCategoryNameCard

/-- THE TIED CARD OF 'laws.FnExactCategorySize'. -/
def fnExactCategorySizeCard : Claim7 := { stood := { row := fnExactCategorySizeRow, standIns := [], harness := (true, "cdedf4f819e83a200a0450c4a0ed4964fb591e67028366a9d6f5d35e8d381f9b"), looks := false }, kinds := [], alts := [], laidByText := true, laidKinds := [.data], laidTests := true, laidLooks := .later }
def FnExactCategorySizeCardSaid : Prop := Claim7.holds Tryd.pinned (.plain (OpenSpec.ofChange fnExactCategorySizeSpec)) fnExactCategorySizeCard

/-- THE TIED CARD OF 'laws.FnHighValues'. -/
def fnHighValuesCard : Claim7 := { stood := { row := fnHighValuesRow, standIns := [], harness := (true, "cdedf4f819e83a200a0450c4a0ed4964fb591e67028366a9d6f5d35e8d381f9b"), looks := false }, kinds := [], alts := [], laidByText := true, laidKinds := [.data], laidTests := true, laidLooks := .later }
def FnHighValuesCardSaid : Prop := Claim7.holds Tryd.pinned (.plain (OpenSpec.ofChange fnHighValuesSpec)) fnHighValuesCard

/-- THE TIED CARD OF 'laws.FnBestHands'. -/
def fnBestHandsCard : Claim7 := { stood := { row := fnBestHandsRow, standIns := [], harness := (true, "cdedf4f819e83a200a0450c4a0ed4964fb591e67028366a9d6f5d35e8d381f9b"), looks := false }, kinds := [], alts := [], laidByText := true, laidKinds := [.data], laidTests := true, laidLooks := .later }
def FnBestHandsCardSaid : Prop := Claim7.holds Tryd.pinned (.plain (OpenSpec.ofChange fnBestHandsSpec)) fnBestHandsCard

/-- THE TIED CARD OF 'laws.FnCategories'. -/
def fnCategoriesCard : Claim7 := { stood := { row := fnCategoriesRow, standIns := [], harness := (true, "cdedf4f819e83a200a0450c4a0ed4964fb591e67028366a9d6f5d35e8d381f9b"), looks := false }, kinds := [], alts := [], laidByText := true, laidKinds := [.data], laidTests := true, laidLooks := .later }
def FnCategoriesCardSaid : Prop := Claim7.holds Tryd.pinned (.plain (OpenSpec.ofChange fnCategoriesSpec)) fnCategoriesCard

/-- THE SECOND FORM's CARD OF 'laws.FnExactHighValue'. -/
def fnExactHighValueUptoCard : Claim7 := { stood := { row := fnExactHighValueUptoRow, standIns := [], harness := (true, "cdedf4f819e83a200a0450c4a0ed4964fb591e67028366a9d6f5d35e8d381f9b"), looks := false }, kinds := [], alts := [], laidByText := true, laidKinds := [.data], laidTests := true, laidLooks := .later }
def FnExactHighValueUptoCardSaid : Prop := Claim7.holds Tryd.pinned (.plain (OpenSpec.upto fnExactHighValueSpec)) fnExactHighValueUptoCard

/-- THE SECOND FORM's CARD OF 'laws.FnExactCategoryOf'. -/
def fnExactCategoryOfUptoCard : Claim7 := { stood := { row := fnExactCategoryOfUptoRow, standIns := [], harness := (true, "cdedf4f819e83a200a0450c4a0ed4964fb591e67028366a9d6f5d35e8d381f9b"), looks := false }, kinds := [], alts := [], laidByText := true, laidKinds := [.data], laidTests := true, laidLooks := .later }
def FnExactCategoryOfUptoCardSaid : Prop := Claim7.holds Tryd.pinned (.plain (OpenSpec.upto fnExactCategoryOfSpec)) fnExactCategoryOfUptoCard

/-- THE SECOND FORM's CARD OF 'laws.FnExactKickersOf'. -/
def fnExactKickersOfUptoCard : Claim7 := { stood := { row := fnExactKickersOfUptoRow, standIns := [], harness := (true, "cdedf4f819e83a200a0450c4a0ed4964fb591e67028366a9d6f5d35e8d381f9b"), looks := false }, kinds := [], alts := [], laidByText := true, laidKinds := [.data], laidTests := true, laidLooks := .later }
def FnExactKickersOfUptoCardSaid : Prop := Claim7.holds Tryd.pinned (.plain (OpenSpec.upto fnExactKickersOfSpec)) fnExactKickersOfUptoCard

/-- THE SECOND FORM's CARD OF 'laws.FnExactBestHigh'. -/
def fnExactBestHighUptoCard : Claim7 := { stood := { row := fnExactBestHighUptoRow, standIns := [], harness := (true, "cdedf4f819e83a200a0450c4a0ed4964fb591e67028366a9d6f5d35e8d381f9b"), looks := false }, kinds := [], alts := [], laidByText := true, laidKinds := [.data], laidTests := true, laidLooks := .later }
def FnExactBestHighUptoCardSaid : Prop := Claim7.holds Tryd.pinned (.plain (OpenSpec.upto fnExactBestHighSpec)) fnExactBestHighUptoCard

/-- THE SECOND FORM's CARD OF 'laws.FnExactBestFive'. -/
def fnExactBestFiveUptoCard : Claim7 := { stood := { row := fnExactBestFiveUptoRow, standIns := [], harness := (true, "cdedf4f819e83a200a0450c4a0ed4964fb591e67028366a9d6f5d35e8d381f9b"), looks := false }, kinds := [], alts := [], laidByText := true, laidKinds := [.data], laidTests := true, laidLooks := .later }
def FnExactBestFiveUptoCardSaid : Prop := Claim7.holds Tryd.pinned (.plain (OpenSpec.upto fnExactBestFiveSpec)) fnExactBestFiveUptoCard

/-- THE SECOND FORM's CARD OF 'laws.FnExactCompareHigh'. -/
def fnExactCompareHighUptoCard : Claim7 := { stood := { row := fnExactCompareHighUptoRow, standIns := [], harness := (true, "cdedf4f819e83a200a0450c4a0ed4964fb591e67028366a9d6f5d35e8d381f9b"), looks := false }, kinds := [], alts := [], laidByText := true, laidKinds := [.data], laidTests := true, laidLooks := .later }
def FnExactCompareHighUptoCardSaid : Prop := Claim7.holds Tryd.pinned (.plain (OpenSpec.upto fnExactCompareHighSpec)) fnExactCompareHighUptoCard

/-- THE SECOND FORM's CARD OF 'laws.FnExactCategoryName'. -/
def fnExactCategoryNameUptoCard : Claim7 := { stood := { row := fnExactCategoryNameUptoRow, standIns := [], harness := (true, "cdedf4f819e83a200a0450c4a0ed4964fb591e67028366a9d6f5d35e8d381f9b"), looks := false }, kinds := [], alts := [], laidByText := true, laidKinds := [.data], laidTests := true, laidLooks := .later }
def FnExactCategoryNameUptoCardSaid : Prop := Claim7.holds Tryd.pinned (.plain (OpenSpec.upto fnExactCategoryNameSpec)) fnExactCategoryNameUptoCard

/-- THE SECOND FORM's CARD OF 'laws.FnExactCategorySize'. -/
def fnExactCategorySizeUptoCard : Claim7 := { stood := { row := fnExactCategorySizeUptoRow, standIns := [], harness := (true, "cdedf4f819e83a200a0450c4a0ed4964fb591e67028366a9d6f5d35e8d381f9b"), looks := false }, kinds := [], alts := [], laidByText := true, laidKinds := [.data], laidTests := true, laidLooks := .later }
def FnExactCategorySizeUptoCardSaid : Prop := Claim7.holds Tryd.pinned (.plain (OpenSpec.upto fnExactCategorySizeSpec)) fnExactCategorySizeUptoCard

/-- THE SECOND FORM's CARD OF 'laws.FnHighValues'. -/
def fnHighValuesUptoCard : Claim7 := { stood := { row := fnHighValuesUptoRow, standIns := [], harness := (true, "cdedf4f819e83a200a0450c4a0ed4964fb591e67028366a9d6f5d35e8d381f9b"), looks := false }, kinds := [], alts := [], laidByText := true, laidKinds := [.data], laidTests := true, laidLooks := .later }
def FnHighValuesUptoCardSaid : Prop := Claim7.holds Tryd.pinned (.plain (OpenSpec.upto fnHighValuesSpec)) fnHighValuesUptoCard

/-- THE SECOND FORM's CARD OF 'laws.FnBestHands'. -/
def fnBestHandsUptoCard : Claim7 := { stood := { row := fnBestHandsUptoRow, standIns := [], harness := (true, "cdedf4f819e83a200a0450c4a0ed4964fb591e67028366a9d6f5d35e8d381f9b"), looks := false }, kinds := [], alts := [], laidByText := true, laidKinds := [.data], laidTests := true, laidLooks := .later }
def FnBestHandsUptoCardSaid : Prop := Claim7.holds Tryd.pinned (.plain (OpenSpec.upto fnBestHandsSpec)) fnBestHandsUptoCard

/-- THE SECOND FORM's CARD OF 'laws.FnCategories'. -/
def fnCategoriesUptoCard : Claim7 := { stood := { row := fnCategoriesUptoRow, standIns := [], harness := (true, "cdedf4f819e83a200a0450c4a0ed4964fb591e67028366a9d6f5d35e8d381f9b"), looks := false }, kinds := [], alts := [], laidByText := true, laidKinds := [.data], laidTests := true, laidLooks := .later }
def FnCategoriesUptoCardSaid : Prop := Claim7.holds Tryd.pinned (.plain (OpenSpec.upto fnCategoriesSpec)) fnCategoriesUptoCard
end Rows
end Go.Proofs.YtcbfmfkahgfjkaaDoor
