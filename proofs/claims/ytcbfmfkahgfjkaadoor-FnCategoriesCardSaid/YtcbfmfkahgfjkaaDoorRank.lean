/-
  Ranks and suits: the walks of both texts' functions on single cards.
-/
import Derived.Test.YtcbfmfkahgfjkaaDoorIsCard
namespace Go.Proofs.YtcbfmfkahgfjkaaDoor
open Go.RowKit

set_option maxHeartbeats 400000 in
theorem rank_any (x : Int) (w : World) (h0 : 0 ≤ x) (h1 : x < 52) :
    Calls Tryd.prog 97 #[.int .i64 x] w fun e w' => e = .returned (.int .i64 (x / 4)) ∧ w = w' := by
  go_enter Tryd.func97, Tryd.ntmps97
  go_wp2
  go_ret
  exact ⟨rfl, rfl⟩
set_option maxHeartbeats 400000 in
theorem suit_any (x : Int) (w : World) (h0 : 0 ≤ x) (h1 : x < 52) :
    Calls Tryd.prog 98 #[.int .i64 x] w fun e w' => e = .returned (.int .i64 (x % 4)) ∧ w = w' := by
  go_enter Tryd.func98, Tryd.ntmps98
  go_wp2
  go_ret
  exact ⟨rfl, rfl⟩

/-- What RankOf, SuitOf and CardOf answer. -/
def rankR (x : Int) : Int × Int := if inB x 0 51 = true then (x / 4, 0) else (0, 2)
def suitR (x : Int) : Int × Int := if inB x 0 51 = true then (x % 4, 0) else (0, 2)
def cardR (r s : Int) : Int × Int := if (inB r 0 12 && inB s 0 3) = true then (4 * r + s, 0) else (0, 2)
theorem rankR_yes (x : Int) (h0 : 0 ≤ x) (h1 : x < 52) : rankR x = (x / 4, 0) := by unfold rankR; rw [if_pos (isC_yes x h0 h1)]
theorem rankR_no (x : Int) (h : x < 0 ∨ 52 ≤ x) : rankR x = (0, 2) := by unfold rankR; rw [isC_no x h]; rfl
theorem suitR_yes (x : Int) (h0 : 0 ≤ x) (h1 : x < 52) : suitR x = (x % 4, 0) := by unfold suitR; rw [if_pos (isC_yes x h0 h1)]
theorem suitR_no (x : Int) (h : x < 0 ∨ 52 ≤ x) : suitR x = (0, 2) := by unfold suitR; rw [isC_no x h]; rfl
theorem cardR_yes (r s : Int) (h0 : 0 ≤ r) (h1 : r ≤ 12) (h2 : 0 ≤ s) (h3 : s ≤ 3) : cardR r s = (4 * r + s, 0) := by
  unfold cardR; rw [inB_yes _ _ _ h0 h1, inB_yes _ _ _ h2 h3]; rfl
theorem cardR_r (r s : Int) (h : outB r 0 12) : cardR r s = (0, 2) := by unfold cardR; rw [outB_inB _ _ _ h]; rfl
theorem cardR_s (r s : Int) (h : outB s 0 3) : cardR r s = (0, 2) := by unfold cardR; rw [outB_inB _ _ _ h, Bool.and_false]; rfl

end Go.Proofs.YtcbfmfkahgfjkaaDoor
