/-
  DERIVED. GIVEN WITH THE SEED: THE CARDS: each row of YtilbkgnjgmlhjabDoorRows.lean that lists a variable, with what it lists TIED to the program's text (the seventh form; the later family's looks); each row that meets fmt, with fmt's text TOLD by the authors' own Lean function (tested against real Go, not proved from fmt's source: count such statements apart). THE CARD IS WHAT COUNTS. Prove the row's statement (the work); the ties are given (YtilbkgnjgmlhjabDoorTie.lean); close each card by the builder's one call (the guide's Derived/Test/ToyasCard.lean, 'card_holds'). Laid BY PROGRAM, IN A SANDBOX (cutbox-door.mjs). By AI agents, Wed Nov 11 2026. No macro, syntax, notation, axiom, sorry.
-/
import Derived.Test.YtilbkgnjgmlhjabDoorRows
import GoSem.ClaimSeven
namespace Go.Proofs.YtilbkgnjgmlhjabDoor
namespace Rows

/-- THE TIED CARD OF 'laws.FnExactSuitOrbit'. -/
def fnExactSuitOrbitCard : Claim7 := { stood := { row := fnExactSuitOrbitRow, standIns := [], harness := (true, "e3eba60464e1b7451cecf178ec1ad0934a7f99cca0c66d50d475147c15b0fc97"), looks := false }, kinds := [], alts := [], laidByText := true, laidKinds := [.data], laidTests := true, laidLooks := .later }
def FnExactSuitOrbitCardSaid : Prop := Claim7.holds Tryd.pinned (.plain (OpenSpec.ofChange fnExactSuitOrbitSpec)) fnExactSuitOrbitCard

/-- THE SECOND FORM's CARD OF 'laws.FnExactSuitOrbit'. -/
def fnExactSuitOrbitUptoCard : Claim7 := { stood := { row := fnExactSuitOrbitUptoRow, standIns := [], harness := (true, "e3eba60464e1b7451cecf178ec1ad0934a7f99cca0c66d50d475147c15b0fc97"), looks := false }, kinds := [], alts := [], laidByText := true, laidKinds := [.data], laidTests := true, laidLooks := .later }
def FnExactSuitOrbitUptoCardSaid : Prop := Claim7.holds Tryd.pinned (.plain (OpenSpec.upto fnExactSuitOrbitSpec)) fnExactSuitOrbitUptoCard
end Rows
end Go.Proofs.YtilbkgnjgmlhjabDoor
