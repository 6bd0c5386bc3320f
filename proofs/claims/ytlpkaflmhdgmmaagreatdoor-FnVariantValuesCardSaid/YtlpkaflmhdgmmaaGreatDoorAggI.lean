/-
  An array of five numbers by value.
-/
import Derived.Test.YtlpkaflmhdgmmaaGreatDoorBase
namespace Go.Proofs.YtlpkaflmhdgmmaaGreatDoor
open Go.RowKit
abbrev aggI (xs : List Int) : Value := .agg (ints xs).toArray
end Go.Proofs.YtlpkaflmhdgmmaaGreatDoor
