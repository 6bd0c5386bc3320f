/-
  DERIVED. GIVEN WITH THE SEED: THE CARDS: each row of YtoidchkgibngiaaDoorRows.lean that lists a variable, with what it lists TIED to the program's text (the seventh form; the later family's looks); each row that meets fmt, with fmt's text TOLD by the authors' own Lean function (tested against real Go, not proved from fmt's source: count such statements apart). THE CARD IS WHAT COUNTS. Prove the row's statement (the work); the ties are given (YtoidchkgibngiaaDoorTie.lean); close each card by the builder's one call (the guide's Derived/Test/ToyasCard.lean, 'card_holds'). Laid BY PROGRAM, IN A SANDBOX (cutbox-door.mjs). By AI agents, Wed Nov 11 2026. No macro, syntax, notation, axiom, sorry.
-/
import Derived.Test.YtoidchkgibngiaaDoorRows
import GoSem.ClaimSeven
namespace Go.Proofs.YtoidchkgibngiaaDoor
namespace Rows

/-- THE TIED CARD OF 'laws.FnCards'. -/
def fnCardsCard : Claim7 := { stood := { row := fnCardsRow, standIns := [], harness := (true, "5f210aec3848eb413fc8e9ec8f86da42ba83a95a036f2191cf6d57b3dfa72946"), looks := false }, kinds := [], alts := [], laidByText := true, laidKinds := [.data], laidTests := true, laidLooks := .later }
def FnCardsCardSaid : Prop := Claim7.holds Tryd.pinned (.plain (OpenSpec.ofChange fnCardsSpec)) fnCardsCard

/-- THE TIED CARD OF 'laws.FnExactOtherCards'. -/
def fnExactOtherCardsCard : Claim7 := { stood := { row := fnExactOtherCardsRow, standIns := [], harness := (true, "5f210aec3848eb413fc8e9ec8f86da42ba83a95a036f2191cf6d57b3dfa72946"), looks := false }, kinds := [], alts := [], laidByText := true, laidKinds := [.data], laidTests := true, laidLooks := .later }
def FnExactOtherCardsCardSaid : Prop := Claim7.holds Tryd.pinned (.plain (OpenSpec.ofChange fnExactOtherCardsSpec)) fnExactOtherCardsCard

/-- THE SECOND FORM's CARD OF 'laws.FnCards'. -/
def fnCardsUptoCard : Claim7 := { stood := { row := fnCardsUptoRow, standIns := [], harness := (true, "5f210aec3848eb413fc8e9ec8f86da42ba83a95a036f2191cf6d57b3dfa72946"), looks := false }, kinds := [], alts := [], laidByText := true, laidKinds := [.data], laidTests := true, laidLooks := .later }
def FnCardsUptoCardSaid : Prop := Claim7.holds Tryd.pinned (.plain (OpenSpec.upto fnCardsSpec)) fnCardsUptoCard

/-- THE SECOND FORM's CARD OF 'laws.FnExactOtherCards'. -/
def fnExactOtherCardsUptoCard : Claim7 := { stood := { row := fnExactOtherCardsUptoRow, standIns := [], harness := (true, "5f210aec3848eb413fc8e9ec8f86da42ba83a95a036f2191cf6d57b3dfa72946"), looks := false }, kinds := [], alts := [], laidByText := true, laidKinds := [.data], laidTests := true, laidLooks := .later }
def FnExactOtherCardsUptoCardSaid : Prop := Claim7.holds Tryd.pinned (.plain (OpenSpec.upto fnExactOtherCardsSpec)) fnExactOtherCardsUptoCard
end Rows
end Go.Proofs.YtoidchkgibngiaaDoor
