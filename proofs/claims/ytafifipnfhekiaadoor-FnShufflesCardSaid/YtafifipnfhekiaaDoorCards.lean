/-
  DERIVED. GIVEN WITH THE SEED: THE CARDS: each row of YtafifipnfhekiaaDoorRows.lean that lists a variable, with what it lists TIED to the program's text (the seventh form; the later family's looks); each row that meets fmt, with fmt's text TOLD by the authors' own Lean function (tested against real Go, not proved from fmt's source: count such statements apart). THE CARD IS WHAT COUNTS. Prove the row's statement (the work); the ties are given (YtafifipnfhekiaaDoorTie.lean); close each card by the builder's one call (the guide's Derived/Test/ToyasCard.lean, 'card_holds'). Laid BY PROGRAM, IN A SANDBOX (cutbox-door.mjs). By AI agents, Wed Nov 11 2026. No macro, syntax, notation, axiom, sorry.
-/
import Derived.Test.YtafifipnfhekiaaDoorRows
import GoSem.ClaimSeven
namespace Go.Proofs.YtafifipnfhekiaaDoor
namespace Rows

/-- THE TIED CARD OF 'laws.FnShuffles'. -/
def fnShufflesCard : Claim7 := { stood := { row := fnShufflesRow, standIns := [], harness := (true, "8489bdf19e18a70905e66c0d58836eb3e758bf3a29a96d5d109d035ab782f435"), looks := false }, kinds := [], alts := [], laidByText := true, laidKinds := [.data], laidTests := true, laidLooks := .later }
def FnShufflesCardSaid : Prop := Claim7.holds Tryd.pinned (.plain (OpenSpec.ofChange fnShufflesSpec)) fnShufflesCard

/-- THE TIED CARD OF 'laws.FnExactShuffledDeck'. -/
def fnExactShuffledDeckCard : Claim7 := { stood := { row := fnExactShuffledDeckRow, standIns := [], harness := (true, "8489bdf19e18a70905e66c0d58836eb3e758bf3a29a96d5d109d035ab782f435"), looks := false }, kinds := [], alts := [], laidByText := true, laidKinds := [.data], laidTests := true, laidLooks := .later }
def FnExactShuffledDeckCardSaid : Prop := Claim7.holds Tryd.pinned (.plain (OpenSpec.ofChange fnExactShuffledDeckSpec)) fnExactShuffledDeckCard

/-- THE SECOND FORM's CARD OF 'laws.FnShuffles'. -/
def fnShufflesUptoCard : Claim7 := { stood := { row := fnShufflesUptoRow, standIns := [], harness := (true, "8489bdf19e18a70905e66c0d58836eb3e758bf3a29a96d5d109d035ab782f435"), looks := false }, kinds := [], alts := [], laidByText := true, laidKinds := [.data], laidTests := true, laidLooks := .later }
def FnShufflesUptoCardSaid : Prop := Claim7.holds Tryd.pinned (.plain (OpenSpec.upto fnShufflesSpec)) fnShufflesUptoCard

/-- THE SECOND FORM's CARD OF 'laws.FnExactShuffledDeck'. -/
def fnExactShuffledDeckUptoCard : Claim7 := { stood := { row := fnExactShuffledDeckUptoRow, standIns := [], harness := (true, "8489bdf19e18a70905e66c0d58836eb3e758bf3a29a96d5d109d035ab782f435"), looks := false }, kinds := [], alts := [], laidByText := true, laidKinds := [.data], laidTests := true, laidLooks := .later }
def FnExactShuffledDeckUptoCardSaid : Prop := Claim7.holds Tryd.pinned (.plain (OpenSpec.upto fnExactShuffledDeckSpec)) fnExactShuffledDeckUptoCard
end Rows
end Go.Proofs.YtafifipnfhekiaaDoor
