/-
  What the library's table holds when a call begins, from what a row lists.
-/
import Derived.Test.YtjmfecjgomkofabDoorLaidFrame
import Derived.Test.YtjmfecjgomkofabDoorOtherImpl
namespace Go.Proofs.YtjmfecjgomkofabDoor
open Go.ChangeShapes Go.WideShapes Go.ChangeAt Go.RowKit
set_option linter.unusedVariables false

theorem tz_data : (Rows.laid_math_bits_deBruijn64tab : DataW Unit) = Lib.tabData .u8 tzTab := rfl
/-- The table stands first on each row's list. -/
theorem tz_of {W : World} {r : List (String × DataW Unit)} (h : laidMet Tryd.prog (("math/bits.deBruijn64tab", Rows.laid_math_bits_deBruijn64tab) :: r) W) : Tz W.heap.size W := by
  rw [tz_data] at h
  exact Lib.tabBelow_of_tabIs (Lib.tabIs_of_head gTz (by kernel_rfl) Tryd.underlying138 Tryd.underlying5 (by kernel_rfl) (by kernel_rfl) h)
end Go.Proofs.YtjmfecjgomkofabDoor
