/-
  DERIVED. GIVEN WITH THE SEED: THE PROGRAM's TIES (one call each: nine closed facts by the kernel) AND EACH ROW's TIE, after the 31st guide's Derived/Test/Toyas{Tie, Card}.lean. No idea stands in it: it is a product of the set-up. Laid BY PROGRAM, IN A SANDBOX (cutbox-door.mjs). By AI agents, Wed Nov 11 2026. No macro, syntax, notation, axiom, sorry.
-/
import Derived.Test.YtjchjjnmahddiaaDoorRows
import Derived.LaidByTextLater
import Derived.SevenTiedAt
import Derived.LaidSub
import Derived.LaidOnce
namespace Go.Proofs.YtjchjjnmahddiaaDoor
open Go
set_option maxRecDepth 100000
theorem seatTie1 : Tryd.prog.laidByTextLater [("loop.example/g00910/impl.lowestStraight", Rows.laid_loop_example_g00910_impl_lowestStraight), ("loop.example/g00910/impl.standardVariants", Rows.laid_loop_example_g00910_impl_standardVariants)] [.data, .data] true :=
  Program.laidByTextLater_by_one 35 8 57 (by kernel_rfl) (by kernel_rfl) (by kernel_rfl) (by kernel_rfl) (by kernel_rfl) (by kernel_rfl) (fun _ _ => by kernel_rfl)
theorem noOwnUnsafe : Tryd.pinned.checked.prog.headLifts.contains "ownunsafe" = false := by kernel_rfl
theorem tie : Tryd.prog.laidByTextLater [("loop.example/g00910/impl.standardVariants", Rows.laid_loop_example_g00910_impl_standardVariants)] [.data] true :=
  Program.laidByTextLater.sub seatTie1 ["loop.example/g00910/impl.standardVariants"] (by kernel_rfl) (by kernel_rfl)
theorem fnExactStandardVariant_row_tie : Rows.fnExactStandardVariantRow.laidByTextAt .later Tryd.pinned [.data] true :=
  OpenClaim.laidByTextAt_later rfl rfl tie noOwnUnsafe
theorem fnExactVariantNamed_row_tie : Rows.fnExactVariantNamedRow.laidByTextAt .later Tryd.pinned [.data] true :=
  OpenClaim.laidByTextAt_later rfl rfl tie noOwnUnsafe
theorem fnVariantNames_row_tie : Rows.fnVariantNamesRow.laidByTextAt .later Tryd.pinned [.data] true :=
  OpenClaim.laidByTextAt_later rfl rfl tie noOwnUnsafe
theorem tie2 : Tryd.prog.laidByTextLater [("loop.example/g00910/impl.lowestStraight", Rows.laid_loop_example_g00910_impl_lowestStraight)] [.data] true :=
  Program.laidByTextLater.sub seatTie1 ["loop.example/g00910/impl.lowestStraight"] (by kernel_rfl) (by kernel_rfl)
theorem fnExactHighIn_row_tie : Rows.fnExactHighInRow.laidByTextAt .later Tryd.pinned [.data] true :=
  OpenClaim.laidByTextAt_later rfl rfl tie2 noOwnUnsafe
theorem fnExactBestFive_row_tie : Rows.fnExactBestFiveRow.laidByTextAt .later Tryd.pinned [.data] true :=
  OpenClaim.laidByTextAt_later rfl rfl tie2 noOwnUnsafe
theorem fnBestHands_row_tie : Rows.fnBestHandsRow.laidByTextAt .later Tryd.pinned [.data] true :=
  OpenClaim.laidByTextAt_later rfl rfl tie2 noOwnUnsafe
theorem fnExactStandardVariantUpto_row_tie : Rows.fnExactStandardVariantUptoRow.laidByTextAt .later Tryd.pinned [.data] true :=
  OpenClaim.laidByTextAt_later rfl rfl tie noOwnUnsafe
theorem fnExactVariantNamedUpto_row_tie : Rows.fnExactVariantNamedUptoRow.laidByTextAt .later Tryd.pinned [.data] true :=
  OpenClaim.laidByTextAt_later rfl rfl tie noOwnUnsafe
theorem fnVariantNamesUpto_row_tie : Rows.fnVariantNamesUptoRow.laidByTextAt .later Tryd.pinned [.data] true :=
  OpenClaim.laidByTextAt_later rfl rfl tie noOwnUnsafe
theorem fnExactHighInUpto_row_tie : Rows.fnExactHighInUptoRow.laidByTextAt .later Tryd.pinned [.data] true :=
  OpenClaim.laidByTextAt_later rfl rfl tie2 noOwnUnsafe
theorem fnExactBestFiveUpto_row_tie : Rows.fnExactBestFiveUptoRow.laidByTextAt .later Tryd.pinned [.data] true :=
  OpenClaim.laidByTextAt_later rfl rfl tie2 noOwnUnsafe
theorem fnBestHandsUpto_row_tie : Rows.fnBestHandsUptoRow.laidByTextAt .later Tryd.pinned [.data] true :=
  OpenClaim.laidByTextAt_later rfl rfl tie2 noOwnUnsafe
end Go.Proofs.YtjchjjnmahddiaaDoor
