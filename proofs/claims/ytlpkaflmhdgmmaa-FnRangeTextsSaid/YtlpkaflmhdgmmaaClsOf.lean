/-
  The class of two cards: the walks of the program's and of the model's function; ClassOf.
-/
import Derived.Test.YtlpkaflmhdgmmaaClsText
import Derived.Test.YtlpkaflmhdgmmaaBase
import Derived.BigQuiet
import Derived.Deep.QuietTactic
namespace Go.Proofs.Ytlpkaflmhdgmmaa
open Go.RowKit
set_option linter.unusedVariables false

theorem cls_same {x y : Int} (h : x % 4 = y % 4) : clsI x y = 13 * hiR x y + loR x y := if_pos (.inl h)
theorem cls_rank {x y : Int} (h : x / 4 = y / 4) : clsI x y = 13 * hiR x y + loR x y := if_pos (.inr h)
theorem cls_diff {x y : Int} (h : x % 4 ≠ y % 4) : clsI x y = 13 * loR x y + hiR x y := by
  unfold clsI
  by_cases e : x / 4 = y / 4
  · rw [if_pos (.inr e)]; unfold hiR loR; rw [e]
  · rw [if_neg (by intro h'; rcases h' with h' | h'; exact h h'; exact e h')]
theorem hi_max (x y : Int) : maxI' (x / 4) (y / 4) = hiR x y := by unfold maxI' hiR; split <;> split <;> omega
theorem lo_min (x y : Int) : minI' (x / 4) (y / 4) = loR x y := by unfold minI' loR; split <;> split <;> omega
set_option maxHeartbeats 400000 in
theorem classAt_any (p q : Int) (w : World) (h0 : 0 ≤ p) (h1 : p ≤ 12) (g0 : 0 ≤ q) (g1 : q ≤ 12) :
    Calls Try.prog 72 #[.int .i64 p, .int .i64 q] w (Same (.int .i64 (p * 13 + q)) w) := by
  go_enter Try.func72, Try.ntmps72
  go_wp2_with fail
  go_ret
  exact ⟨rfl, rfl⟩
theorem list_two (xs : List Int) (h : xs.length = 2) : ∃ x y, xs = [x, y] := by
  match xs, h with
  | [x, y], _ => exact ⟨x, y, rfl⟩
/-- What ClassOf answers. -/
def clsR (xs : List Int) : Int := if sizedB xs 2 2 = true then clsI (nth xs 0) (nth xs 1) else 0
theorem clsR_yes {xs : List Int} (h : sizedB xs 2 2 = true) : clsR xs = clsI (nth xs 0) (nth xs 1) := by unfold clsR; rw [if_pos h]
theorem clsR_no {xs : List Int} (h : sizedB xs 2 2 = false) : clsR xs = 0 := by unfold clsR; rw [h]; rfl
end Go.Proofs.Ytlpkaflmhdgmmaa
