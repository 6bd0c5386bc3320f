/-
  CombosOf, CombosWithout: the model's.
-/
import Derived.Test.YtjmfecjgomkofaaDoorCombosImpl
import Derived.Test.YtjmfecjgomkofaaDoorSpecH
import Derived.Test.YtjmfecjgomkofaaDoorFam1
namespace Go.Proofs.YtjmfecjgomkofaaDoor
open Go.RowKit
set_option linter.unusedVariables false

theorem all52_len : all52.length = 52 := by decide
theorem all52_nth : ∀ i : Fin 52, nth all52 i.val = (i.val : Int) := by decide
theorem all52_drop (x n : Nat) (h : x + 1 + n < 52) : nth (all52.drop (x + 1)) n = ((x + 1 + n : Nat) : Int) := by
  have := all52_nth ⟨x + 1 + n, h⟩
  simp only at this
  rw [← this]
  unfold nth
  rw [List.getD_eq_getElem?_getD, List.getD_eq_getElem?_getD, List.getElem?_drop]
/-- All combinations of a class. -/
def clsP (k : Int) : List (Int × Int) := ofCls k (pairsOf all52)
def clsR2 (k : Int) : Nat → List Int := fun j => two ((clsP k).getD j (0, 0))
theorem clsP_at {k : Int} {ps qs : List (Int × Int)} {q : Int × Int} (h : ps ++ (q :: qs) = pairsOf all52) (hq : clsI q.1 q.2 = k) : (clsP k).getD (ofCls k ps).length (0, 0) = q := by
  unfold clsP
  rw [← h]
  unfold ofCls
  rw [List.filter_append, List.filter_cons_of_pos (by simp [hq]), List.getD_eq_getElem?_getD, List.getElem?_append_right (Nat.le_refl _)]
  simp
theorem own_two (w : World) (x y : Int) : Own (w.alloc (.cells #[.int .i64 x, .int .i64 y] 2)) w.heap.size (.slice (some ⟨w.heap.size, 0, none⟩) 2 2) [x, y] :=
  ⟨rfl, .inr ⟨w.heap.size, 2, #[.int .i64 x, .int .i64 y], rfl, Nat.le_refl _, heap_alloc_new w _, Nat.le_refl _, by unfold maxLen; omega, rfl, rfl⟩⟩
end Go.Proofs.YtjmfecjgomkofaaDoor
