/-
  An array of five numbers by value.
-/
import Derived.Test.YtjmfecjgomkofaaBase
namespace Go.Proofs.Ytjmfecjgomkofaa
open Go.RowKit
abbrev aggI (xs : List Int) : Value := .agg (ints xs).toArray
end Go.Proofs.Ytjmfecjgomkofaa
