/-
  DERIVED. GIVEN WITH THE SEED: THE CARDS: each row of YtilbkgnjgmlhjaaDoorRows.lean that lists a variable, with what it lists TIED to the program's text (the seventh form; the later family's looks); each row that meets fmt, with fmt's text TOLD by the authors' own Lean function (tested against real Go, not proved from fmt's source: count such statements apart). THE CARD IS WHAT COUNTS. Prove the row's statement (the work); the ties are given (YtilbkgnjgmlhjaaDoorTie.lean); close each card by the builder's one call (the guide's Derived/Test/ToyasCard.lean, 'card_holds'). Laid BY PROGRAM, IN A SANDBOX (cutbox-door.mjs). By AI agents, Wed Nov 11 2026. No macro, syntax, notation, axiom, sorry.
-/
import Derived.Test.YtilbkgnjgmlhjaaDoorRows
import GoSem.ClaimSeven
namespace Go.Proofs.YtilbkgnjgmlhjaaDoor
namespace Rows

/-- THE TIED CARD OF 'laws.FnClasses'. -/
def fnClassesCard : Claim7 := { stood := { row := fnClassesRow, standIns := [], harness := (true, "118f9654c023606b901067bd932d992d78e7cb41c390980584ed4b6d1a366739"), looks := false }, kinds := [], alts := [], laidByText := true, laidKinds := [.data], laidTests := true, laidLooks := .later }
def FnClassesCardSaid : Prop := Claim7.holds Tryd.pinned (.plain (OpenSpec.ofChange fnClassesSpec)) fnClassesCard

/-- THE TIED CARD OF 'laws.FnCombos'. -/
def fnCombosCard : Claim7 := { stood := { row := fnCombosRow, standIns := [], harness := (true, "118f9654c023606b901067bd932d992d78e7cb41c390980584ed4b6d1a366739"), looks := false }, kinds := [], alts := [], laidByText := true, laidKinds := [.data], laidTests := true, laidLooks := .later }
def FnCombosCardSaid : Prop := Claim7.holds Tryd.pinned (.plain (OpenSpec.ofChange fnCombosSpec)) fnCombosCard

/-- THE TIED CARD OF 'laws.FnExactHighIn'. -/
def fnExactHighInCard : Claim7 := { stood := { row := fnExactHighInRow, standIns := [], harness := (true, "118f9654c023606b901067bd932d992d78e7cb41c390980584ed4b6d1a366739"), looks := false }, kinds := [], alts := [], laidByText := true, laidKinds := [.data], laidTests := true, laidLooks := .later }
def FnExactHighInCardSaid : Prop := Claim7.holds Tryd.pinned (.plain (OpenSpec.ofChange fnExactHighInSpec)) fnExactHighInCard

/-- THE TIED CARD OF 'laws.FnExactCombosOf'. -/
def fnExactCombosOfCard : Claim7 := { stood := { row := fnExactCombosOfRow, standIns := [], harness := (true, "118f9654c023606b901067bd932d992d78e7cb41c390980584ed4b6d1a366739"), looks := false }, kinds := [], alts := [], laidByText := true, laidKinds := [.data], laidTests := true, laidLooks := .later }
def FnExactCombosOfCardSaid : Prop := Claim7.holds Tryd.pinned (.plain (OpenSpec.ofChange fnExactCombosOfSpec)) fnExactCombosOfCard

/-- THE TIED CARD OF 'laws.FnExactCombosWithout'. -/
def fnExactCombosWithoutCard : Claim7 := { stood := { row := fnExactCombosWithoutRow, standIns := [], harness := (true, "118f9654c023606b901067bd932d992d78e7cb41c390980584ed4b6d1a366739"), looks := false }, kinds := [], alts := [], laidByText := true, laidKinds := [.data], laidTests := true, laidLooks := .later }
def FnExactCombosWithoutCardSaid : Prop := Claim7.holds Tryd.pinned (.plain (OpenSpec.ofChange fnExactCombosWithoutSpec)) fnExactCombosWithoutCard

/-- THE TIED CARD OF 'laws.FnExactCanonicalCards'. -/
def fnExactCanonicalCardsCard : Claim7 := { stood := { row := fnExactCanonicalCardsRow, standIns := [], harness := (true, "118f9654c023606b901067bd932d992d78e7cb41c390980584ed4b6d1a366739"), looks := false }, kinds := [], alts := [], laidByText := true, laidKinds := [.data], laidTests := true, laidLooks := .later }
def FnExactCanonicalCardsCardSaid : Prop := Claim7.holds Tryd.pinned (.plain (OpenSpec.ofChange fnExactCanonicalCardsSpec)) fnExactCanonicalCardsCard

/-- THE SECOND FORM's CARD OF 'laws.FnClasses'. -/
def fnClassesUptoCard : Claim7 := { stood := { row := fnClassesUptoRow, standIns := [], harness := (true, "118f9654c023606b901067bd932d992d78e7cb41c390980584ed4b6d1a366739"), looks := false }, kinds := [], alts := [], laidByText := true, laidKinds := [.data], laidTests := true, laidLooks := .later }
def FnClassesUptoCardSaid : Prop := Claim7.holds Tryd.pinned (.plain (OpenSpec.upto fnClassesSpec)) fnClassesUptoCard

/-- THE SECOND FORM's CARD OF 'laws.FnCombos'. -/
def fnCombosUptoCard : Claim7 := { stood := { row := fnCombosUptoRow, standIns := [], harness := (true, "118f9654c023606b901067bd932d992d78e7cb41c390980584ed4b6d1a366739"), looks := false }, kinds := [], alts := [], laidByText := true, laidKinds := [.data], laidTests := true, laidLooks := .later }
def FnCombosUptoCardSaid : Prop := Claim7.holds Tryd.pinned (.plain (OpenSpec.upto fnCombosSpec)) fnCombosUptoCard

/-- THE SECOND FORM's CARD OF 'laws.FnExactHighIn'. -/
def fnExactHighInUptoCard : Claim7 := { stood := { row := fnExactHighInUptoRow, standIns := [], harness := (true, "118f9654c023606b901067bd932d992d78e7cb41c390980584ed4b6d1a366739"), looks := false }, kinds := [], alts := [], laidByText := true, laidKinds := [.data], laidTests := true, laidLooks := .later }
def FnExactHighInUptoCardSaid : Prop := Claim7.holds Tryd.pinned (.plain (OpenSpec.upto fnExactHighInSpec)) fnExactHighInUptoCard

/-- THE SECOND FORM's CARD OF 'laws.FnExactCombosOf'. -/
def fnExactCombosOfUptoCard : Claim7 := { stood := { row := fnExactCombosOfUptoRow, standIns := [], harness := (true, "118f9654c023606b901067bd932d992d78e7cb41c390980584ed4b6d1a366739"), looks := false }, kinds := [], alts := [], laidByText := true, laidKinds := [.data], laidTests := true, laidLooks := .later }
def FnExactCombosOfUptoCardSaid : Prop := Claim7.holds Tryd.pinned (.plain (OpenSpec.upto fnExactCombosOfSpec)) fnExactCombosOfUptoCard

/-- THE SECOND FORM's CARD OF 'laws.FnExactCombosWithout'. -/
def fnExactCombosWithoutUptoCard : Claim7 := { stood := { row := fnExactCombosWithoutUptoRow, standIns := [], harness := (true, "118f9654c023606b901067bd932d992d78e7cb41c390980584ed4b6d1a366739"), looks := false }, kinds := [], alts := [], laidByText := true, laidKinds := [.data], laidTests := true, laidLooks := .later }
def FnExactCombosWithoutUptoCardSaid : Prop := Claim7.holds Tryd.pinned (.plain (OpenSpec.upto fnExactCombosWithoutSpec)) fnExactCombosWithoutUptoCard

/-- THE SECOND FORM's CARD OF 'laws.FnExactCanonicalCards'. -/
def fnExactCanonicalCardsUptoCard : Claim7 := { stood := { row := fnExactCanonicalCardsUptoRow, standIns := [], harness := (true, "118f9654c023606b901067bd932d992d78e7cb41c390980584ed4b6d1a366739"), looks := false }, kinds := [], alts := [], laidByText := true, laidKinds := [.data], laidTests := true, laidLooks := .later }
def FnExactCanonicalCardsUptoCardSaid : Prop := Claim7.holds Tryd.pinned (.plain (OpenSpec.upto fnExactCanonicalCardsSpec)) fnExactCanonicalCardsUptoCard
end Rows
end Go.Proofs.YtilbkgnjgmlhjaaDoor
