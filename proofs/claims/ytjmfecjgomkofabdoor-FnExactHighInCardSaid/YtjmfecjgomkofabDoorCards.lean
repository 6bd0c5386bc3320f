/-
  DERIVED. GIVEN WITH THE SEED: THE CARDS: each row of YtjmfecjgomkofabDoorRows.lean that lists a variable, with what it lists TIED to the program's text (the seventh form; the later family's looks); each row that meets fmt, with fmt's text TOLD by the authors' own Lean function (tested against real Go, not proved from fmt's source: count such statements apart). THE CARD IS WHAT COUNTS. Prove the row's statement (the work); the ties are given (YtjmfecjgomkofabDoorTie.lean); close each card by the builder's one call (the guide's Derived/Test/ToyasCard.lean, 'card_holds'). Laid BY PROGRAM, IN A SANDBOX (cutbox-door.mjs). By AI agents, Wed Nov 11 2026. No macro, syntax, notation, axiom, sorry.
-/
import Derived.Test.YtjmfecjgomkofabDoorRows
import GoSem.ClaimSeven
namespace Go.Proofs.YtjmfecjgomkofabDoor
namespace Rows

/-- THE TIED CARD OF 'laws.FnCombos'. -/
def fnCombosCard : Claim7 := { stood := { row := fnCombosRow, standIns := [], harness := (true, "bc26f97cd89a4ca2f3e239068703a34373eebc1043810bf7239c68db41b7c6ca"), looks := false }, kinds := [], alts := [], laidByText := true, laidKinds := [.data], laidTests := true, laidLooks := .later }
def FnCombosCardSaid : Prop := Claim7.holds Tryd.pinned (.plain (OpenSpec.ofChange fnCombosSpec)) fnCombosCard

/-- THE TIED CARD OF 'laws.FnExactHighIn'. -/
def fnExactHighInCard : Claim7 := { stood := { row := fnExactHighInRow, standIns := [], harness := (true, "bc26f97cd89a4ca2f3e239068703a34373eebc1043810bf7239c68db41b7c6ca"), looks := false }, kinds := [], alts := [], laidByText := true, laidKinds := [.data], laidTests := true, laidLooks := .later }
def FnExactHighInCardSaid : Prop := Claim7.holds Tryd.pinned (.plain (OpenSpec.ofChange fnExactHighInSpec)) fnExactHighInCard

/-- THE TIED CARD OF 'laws.FnExactCombosOf'. -/
def fnExactCombosOfCard : Claim7 := { stood := { row := fnExactCombosOfRow, standIns := [], harness := (true, "bc26f97cd89a4ca2f3e239068703a34373eebc1043810bf7239c68db41b7c6ca"), looks := false }, kinds := [], alts := [], laidByText := true, laidKinds := [.data], laidTests := true, laidLooks := .later }
def FnExactCombosOfCardSaid : Prop := Claim7.holds Tryd.pinned (.plain (OpenSpec.ofChange fnExactCombosOfSpec)) fnExactCombosOfCard

/-- THE TIED CARD OF 'laws.FnExactCombosWithout'. -/
def fnExactCombosWithoutCard : Claim7 := { stood := { row := fnExactCombosWithoutRow, standIns := [], harness := (true, "bc26f97cd89a4ca2f3e239068703a34373eebc1043810bf7239c68db41b7c6ca"), looks := false }, kinds := [], alts := [], laidByText := true, laidKinds := [.data], laidTests := true, laidLooks := .later }
def FnExactCombosWithoutCardSaid : Prop := Claim7.holds Tryd.pinned (.plain (OpenSpec.ofChange fnExactCombosWithoutSpec)) fnExactCombosWithoutCard

/-- THE TIED CARD OF 'laws.FnExactCountCombos'. -/
def fnExactCountCombosCard : Claim7 := { stood := { row := fnExactCountCombosRow, standIns := [], harness := (true, "bc26f97cd89a4ca2f3e239068703a34373eebc1043810bf7239c68db41b7c6ca"), looks := false }, kinds := [], alts := [], laidByText := true, laidKinds := [.data], laidTests := true, laidLooks := .later }
def FnExactCountCombosCardSaid : Prop := Claim7.holds Tryd.pinned (.plain (OpenSpec.ofChange fnExactCountCombosSpec)) fnExactCountCombosCard

/-- THE TIED CARD OF 'laws.FnExactRangeCombos'. -/
def fnExactRangeCombosCard : Claim7 := { stood := { row := fnExactRangeCombosRow, standIns := [], harness := (true, "bc26f97cd89a4ca2f3e239068703a34373eebc1043810bf7239c68db41b7c6ca"), looks := false }, kinds := [], alts := [], laidByText := true, laidKinds := [.data], laidTests := true, laidLooks := .later }
def FnExactRangeCombosCardSaid : Prop := Claim7.holds Tryd.pinned (.plain (OpenSpec.ofChange fnExactRangeCombosSpec)) fnExactRangeCombosCard

/-- THE TIED CARD OF 'laws.FnExactShareOf'. -/
def fnExactShareOfCard : Claim7 := { stood := { row := fnExactShareOfRow, standIns := [], harness := (true, "bc26f97cd89a4ca2f3e239068703a34373eebc1043810bf7239c68db41b7c6ca"), looks := false }, kinds := [], alts := [], laidByText := true, laidKinds := [.data], laidTests := true, laidLooks := .later }
def FnExactShareOfCardSaid : Prop := Claim7.holds Tryd.pinned (.plain (OpenSpec.ofChange fnExactShareOfSpec)) fnExactShareOfCard

/-- THE TIED CARD OF 'laws.FnRangeShares'. -/
def fnRangeSharesCard : Claim7 := { stood := { row := fnRangeSharesRow, standIns := [], harness := (true, "bc26f97cd89a4ca2f3e239068703a34373eebc1043810bf7239c68db41b7c6ca"), looks := false }, kinds := [], alts := [], laidByText := true, laidKinds := [.data], laidTests := true, laidLooks := .later }
def FnRangeSharesCardSaid : Prop := Claim7.holds Tryd.pinned (.plain (OpenSpec.ofChange fnRangeSharesSpec)) fnRangeSharesCard

/-- THE SECOND FORM's CARD OF 'laws.FnCombos'. -/
def fnCombosUptoCard : Claim7 := { stood := { row := fnCombosUptoRow, standIns := [], harness := (true, "bc26f97cd89a4ca2f3e239068703a34373eebc1043810bf7239c68db41b7c6ca"), looks := false }, kinds := [], alts := [], laidByText := true, laidKinds := [.data], laidTests := true, laidLooks := .later }
def FnCombosUptoCardSaid : Prop := Claim7.holds Tryd.pinned (.plain (OpenSpec.upto fnCombosSpec)) fnCombosUptoCard

/-- THE SECOND FORM's CARD OF 'laws.FnExactHighIn'. -/
def fnExactHighInUptoCard : Claim7 := { stood := { row := fnExactHighInUptoRow, standIns := [], harness := (true, "bc26f97cd89a4ca2f3e239068703a34373eebc1043810bf7239c68db41b7c6ca"), looks := false }, kinds := [], alts := [], laidByText := true, laidKinds := [.data], laidTests := true, laidLooks := .later }
def FnExactHighInUptoCardSaid : Prop := Claim7.holds Tryd.pinned (.plain (OpenSpec.upto fnExactHighInSpec)) fnExactHighInUptoCard

/-- THE SECOND FORM's CARD OF 'laws.FnExactCombosOf'. -/
def fnExactCombosOfUptoCard : Claim7 := { stood := { row := fnExactCombosOfUptoRow, standIns := [], harness := (true, "bc26f97cd89a4ca2f3e239068703a34373eebc1043810bf7239c68db41b7c6ca"), looks := false }, kinds := [], alts := [], laidByText := true, laidKinds := [.data], laidTests := true, laidLooks := .later }
def FnExactCombosOfUptoCardSaid : Prop := Claim7.holds Tryd.pinned (.plain (OpenSpec.upto fnExactCombosOfSpec)) fnExactCombosOfUptoCard

/-- THE SECOND FORM's CARD OF 'laws.FnExactCombosWithout'. -/
def fnExactCombosWithoutUptoCard : Claim7 := { stood := { row := fnExactCombosWithoutUptoRow, standIns := [], harness := (true, "bc26f97cd89a4ca2f3e239068703a34373eebc1043810bf7239c68db41b7c6ca"), looks := false }, kinds := [], alts := [], laidByText := true, laidKinds := [.data], laidTests := true, laidLooks := .later }
def FnExactCombosWithoutUptoCardSaid : Prop := Claim7.holds Tryd.pinned (.plain (OpenSpec.upto fnExactCombosWithoutSpec)) fnExactCombosWithoutUptoCard

/-- THE SECOND FORM's CARD OF 'laws.FnExactCountCombos'. -/
def fnExactCountCombosUptoCard : Claim7 := { stood := { row := fnExactCountCombosUptoRow, standIns := [], harness := (true, "bc26f97cd89a4ca2f3e239068703a34373eebc1043810bf7239c68db41b7c6ca"), looks := false }, kinds := [], alts := [], laidByText := true, laidKinds := [.data], laidTests := true, laidLooks := .later }
def FnExactCountCombosUptoCardSaid : Prop := Claim7.holds Tryd.pinned (.plain (OpenSpec.upto fnExactCountCombosSpec)) fnExactCountCombosUptoCard

/-- THE SECOND FORM's CARD OF 'laws.FnExactRangeCombos'. -/
def fnExactRangeCombosUptoCard : Claim7 := { stood := { row := fnExactRangeCombosUptoRow, standIns := [], harness := (true, "bc26f97cd89a4ca2f3e239068703a34373eebc1043810bf7239c68db41b7c6ca"), looks := false }, kinds := [], alts := [], laidByText := true, laidKinds := [.data], laidTests := true, laidLooks := .later }
def FnExactRangeCombosUptoCardSaid : Prop := Claim7.holds Tryd.pinned (.plain (OpenSpec.upto fnExactRangeCombosSpec)) fnExactRangeCombosUptoCard

/-- THE SECOND FORM's CARD OF 'laws.FnExactShareOf'. -/
def fnExactShareOfUptoCard : Claim7 := { stood := { row := fnExactShareOfUptoRow, standIns := [], harness := (true, "bc26f97cd89a4ca2f3e239068703a34373eebc1043810bf7239c68db41b7c6ca"), looks := false }, kinds := [], alts := [], laidByText := true, laidKinds := [.data], laidTests := true, laidLooks := .later }
def FnExactShareOfUptoCardSaid : Prop := Claim7.holds Tryd.pinned (.plain (OpenSpec.upto fnExactShareOfSpec)) fnExactShareOfUptoCard

/-- THE SECOND FORM's CARD OF 'laws.FnRangeShares'. -/
def fnRangeSharesUptoCard : Claim7 := { stood := { row := fnRangeSharesUptoRow, standIns := [], harness := (true, "bc26f97cd89a4ca2f3e239068703a34373eebc1043810bf7239c68db41b7c6ca"), looks := false }, kinds := [], alts := [], laidByText := true, laidKinds := [.data], laidTests := true, laidLooks := .later }
def FnRangeSharesUptoCardSaid : Prop := Claim7.holds Tryd.pinned (.plain (OpenSpec.upto fnRangeSharesSpec)) fnRangeSharesUptoCard
end Rows
end Go.Proofs.YtjmfecjgomkofabDoor
