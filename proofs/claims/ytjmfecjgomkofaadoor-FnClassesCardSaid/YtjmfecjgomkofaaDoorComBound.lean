/-
  How many combinations there are.
-/
import Derived.Test.YtjmfecjgomkofaaDoorCombosFilter
namespace Go.Proofs.YtjmfecjgomkofaaDoor

/-- How many combinations there are at most. -/
theorem com_bd (k : Int) (dead : List Int) : (comP k dead).length ≤ 4096 := by
  unfold comP
  split
  · unfold combosP
    have h1 := ofCls_len k ((pairsOf all52).filter (fun q => !hasB dead q.1 && !hasB dead q.2))
    have h2 := List.length_filter_le (fun q : Int × Int => !hasB dead q.1 && !hasB dead q.2) (pairsOf all52)
    have h3 := pairs_len all52
    rw [all52_len] at h3
    omega
  · simp
theorem com_two (k : Int) (dead : List Int) (j : Nat) : (comR k dead j).length = 2 := rfl
end Go.Proofs.YtjmfecjgomkofaaDoor
