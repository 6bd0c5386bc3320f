/-
  DERIVED. GIVEN WITH THE SEED: THE CARDS: each row of YthgcgkkanmnfdaaDoorRows.lean that lists a variable, with what it lists TIED to the program's text (the seventh form; the later family's looks); each row that meets fmt, with fmt's text TOLD by the authors' own Lean function (tested against real Go, not proved from fmt's source: count such statements apart). THE CARD IS WHAT COUNTS. Prove the row's statement (the work); the ties are given (YthgcgkkanmnfdaaDoorTie.lean); close each card by the builder's one call (the guide's Derived/Test/ToyasCard.lean, 'card_holds'). Laid BY PROGRAM, IN A SANDBOX (cutbox-door.mjs). By AI agents, Wed Nov 11 2026. No macro, syntax, notation, axiom, sorry.
-/
import Derived.Test.YthgcgkkanmnfdaaDoorRows
import GoSem.ClaimSeven
namespace Go.Proofs.YthgcgkkanmnfdaaDoor
namespace Rows

/-- THE TIED CARD OF 'laws.FnHighValues'. -/
def fnHighValuesCard : Claim7 := { stood := { row := fnHighValuesRow, standIns := [], harness := (true, "2aabed4836988826a8cac1b654ea9d0ebd2d4815574b6e2692570577d3addb4f"), looks := false }, kinds := [], alts := [], laidByText := true, laidKinds := [.data], laidTests := true, laidLooks := .later }
def FnHighValuesCardSaid : Prop := Claim7.holds Tryd.pinned (.plain (OpenSpec.ofChange fnHighValuesSpec)) fnHighValuesCard

/-- THE TIED CARD OF 'laws.FnBestHands'. -/
def fnBestHandsCard : Claim7 := { stood := { row := fnBestHandsRow, standIns := [], harness := (true, "2aabed4836988826a8cac1b654ea9d0ebd2d4815574b6e2692570577d3addb4f"), looks := false }, kinds := [], alts := [], laidByText := true, laidKinds := [.data], laidTests := true, laidLooks := .later }
def FnBestHandsCardSaid : Prop := Claim7.holds Tryd.pinned (.plain (OpenSpec.ofChange fnBestHandsSpec)) fnBestHandsCard

/-- THE SECOND FORM's CARD OF 'laws.FnHighValues'. -/
def fnHighValuesUptoCard : Claim7 := { stood := { row := fnHighValuesUptoRow, standIns := [], harness := (true, "2aabed4836988826a8cac1b654ea9d0ebd2d4815574b6e2692570577d3addb4f"), looks := false }, kinds := [], alts := [], laidByText := true, laidKinds := [.data], laidTests := true, laidLooks := .later }
def FnHighValuesUptoCardSaid : Prop := Claim7.holds Tryd.pinned (.plain (OpenSpec.upto fnHighValuesSpec)) fnHighValuesUptoCard

/-- THE SECOND FORM's CARD OF 'laws.FnBestHands'. -/
def fnBestHandsUptoCard : Claim7 := { stood := { row := fnBestHandsUptoRow, standIns := [], harness := (true, "2aabed4836988826a8cac1b654ea9d0ebd2d4815574b6e2692570577d3addb4f"), looks := false }, kinds := [], alts := [], laidByText := true, laidKinds := [.data], laidTests := true, laidLooks := .later }
def FnBestHandsUptoCardSaid : Prop := Claim7.holds Tryd.pinned (.plain (OpenSpec.upto fnBestHandsSpec)) fnBestHandsUptoCard
end Rows
end Go.Proofs.YthgcgkkanmnfdaaDoor
