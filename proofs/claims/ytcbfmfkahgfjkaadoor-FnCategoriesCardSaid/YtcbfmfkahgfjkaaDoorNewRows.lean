/-
  Short rows that a call builds.
-/
import Derived.Test.YtcbfmfkahgfjkaaDoorGlueOps
namespace Go.Proofs.YtcbfmfkahgfjkaaDoor
open Go.RowKit
set_option linter.unusedVariables false

theorem rd_new2 (w : World) (x y : Int) : Rd (w.alloc (.cells #[.int .i64 x, .int .i64 y] 2)) (some ⟨w.heap.size, 0, none⟩) [x, y] := fun _ => by
  refine ⟨w.heap.size, 0, rfl, fun i hi => ?_⟩
  have h : (w.alloc (.cells #[.int .i64 x, .int .i64 y] 2)).heap[w.heap.size]? = some (.cells #[.int .i64 x, .int .i64 y] 2) := heap_alloc_new w _
  match i, hi with
  | 0, _ => rw [cell_of_row _ _ _ _ _ _ h]; rfl
  | 1, _ => rw [cell_of_row _ _ _ _ _ _ h]; rfl
theorem grow_glue {ys zs : List Int} {w wr W w1 : World} {v : Value} {A : Option Addr} {c : Nat} (h : Grow w ys v wr) (hb : Below wr.heap.size wr W) (ho : Own w1 w.heap.size (.slice A zs.length c) zs) (hg : W.grownBy w1 v.ownBlock) : Grow w zs (.slice A zs.length c) w1 :=
  ⟨ho, bl_app (bl_trans h.2 hb) (h.1.below hb) (Nat.le_refl _) hg⟩
theorem rd_new1 (w : World) (x : Int) : Rd (w.alloc (.cells #[.int .i64 x] 2)) (some ⟨w.heap.size, 0, none⟩) [x] := fun _ => by
  refine ⟨w.heap.size, 0, rfl, fun i hi => ?_⟩
  have h : (w.alloc (.cells #[.int .i64 x] 2)).heap[w.heap.size]? = some (.cells #[.int .i64 x] 2) := heap_alloc_new w _
  match i, hi with
  | 0, _ => rw [cell_of_row _ _ _ _ _ _ h]; rfl
end Go.Proofs.YtcbfmfkahgfjkaaDoor
