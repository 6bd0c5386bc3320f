/-
  Ranks and suits: the walks of both texts' functions on single cards.
-/
import Derived.Test.YtoidchkgibngiaaDoorIn
import Derived.Test.YtoidchkgibngiaaDoorCardSet
import Derived.BigQuiet
namespace Go.Proofs.YtoidchkgibngiaaDoor
open Go.RowKit

theorem isC_yes (x : Int) (h0 : 0 ≤ x) (h1 : x < 52) : inB x 0 51 = true := inB_yes _ _ _ h0 (by omega)
theorem isC_no (x : Int) (h : x < 0 ∨ 52 ≤ x) : inB x 0 51 = false := outB_inB _ _ _ (by unfold outB; omega)
set_option maxHeartbeats 400000 in
theorem isCard_any (x : Int) (w : World) :
    Calls Tryd.prog 44 #[.int .i64 x] w fun e w' => e = .returned (.bool (inB x 0 51)) ∧ w = w' := by
  by_cases h1 : x < 0
  · have H := Lib.hid (isC_no x (.inl h1))
    go_enter Tryd.func44, Tryd.ntmps44
    go_wp2
    go_ret
    exact ⟨ret_bool (by rw [H.out]), rfl⟩
  · by_cases h2 : x < 52
    · have H := Lib.hid (isC_yes x (by omega) h2)
      go_enter Tryd.func44, Tryd.ntmps44
      go_wp2
      go_ret
      exact ⟨ret_bool (by rw [H.out]), rfl⟩
    · have H := Lib.hid (isC_no x (.inr (by omega)))
      go_enter Tryd.func44, Tryd.ntmps44
      go_wp2
      go_ret
      exact ⟨ret_bool (by rw [H.out]), rfl⟩
theorem isCard_yes (x : Int) (w : World) (h0 : 0 ≤ x) (h1 : x < 52) :
    Calls Tryd.prog 44 #[.int .i64 x] w fun e w' => e = .returned (.bool true) ∧ w = w' :=
  (isCard_any x w).mono fun _ _ ⟨he, hw⟩ => ⟨by rw [he, isC_yes x h0 h1], hw⟩
theorem isCard_no (x : Int) (w : World) (h : x < 0 ∨ 52 ≤ x) :
    Calls Tryd.prog 44 #[.int .i64 x] w fun e w' => e = .returned (.bool false) ∧ w = w' :=
  (isCard_any x w).mono fun _ _ ⟨he, hw⟩ => ⟨by rw [he, isC_no x h], hw⟩

set_option maxHeartbeats 400000 in
theorem rank_any (x : Int) (w : World) (h0 : 0 ≤ x) (h1 : x < 52) :
    Calls Tryd.prog 38 #[.int .i64 x] w fun e w' => e = .returned (.int .i64 (x / 4)) ∧ w = w' := by
  go_enter Tryd.func38, Tryd.ntmps38
  go_wp2
  go_ret
  exact ⟨rfl, rfl⟩
set_option maxHeartbeats 400000 in
theorem suit_any (x : Int) (w : World) (h0 : 0 ≤ x) (h1 : x < 52) :
    Calls Tryd.prog 39 #[.int .i64 x] w fun e w' => e = .returned (.int .i64 (x % 4)) ∧ w = w' := by
  go_enter Tryd.func39, Tryd.ntmps39
  go_wp2
  go_ret
  exact ⟨rfl, rfl⟩

/-- What RankOf, SuitOf and CardOf answer. -/
def rankR (x : Int) : Int × Int := if inB x 0 51 = true then (x / 4, 0) else (0, 2)
def suitR (x : Int) : Int × Int := if inB x 0 51 = true then (x % 4, 0) else (0, 2)
def cardR (r s : Int) : Int × Int := if (inB r 0 12 && inB s 0 3) = true then (4 * r + s, 0) else (0, 2)
theorem rankR_yes (x : Int) (h0 : 0 ≤ x) (h1 : x < 52) : rankR x = (x / 4, 0) := by unfold rankR; rw [if_pos (isC_yes x h0 h1)]
theorem rankR_no (x : Int) (h : x < 0 ∨ 52 ≤ x) : rankR x = (0, 2) := by unfold rankR; rw [isC_no x h]; rfl
theorem suitR_yes (x : Int) (h0 : 0 ≤ x) (h1 : x < 52) : suitR x = (x % 4, 0) := by unfold suitR; rw [if_pos (isC_yes x h0 h1)]
theorem suitR_no (x : Int) (h : x < 0 ∨ 52 ≤ x) : suitR x = (0, 2) := by unfold suitR; rw [isC_no x h]; rfl
theorem cardR_yes (r s : Int) (h0 : 0 ≤ r) (h1 : r ≤ 12) (h2 : 0 ≤ s) (h3 : s ≤ 3) : cardR r s = (4 * r + s, 0) := by
  unfold cardR; rw [inB_yes _ _ _ h0 h1, inB_yes _ _ _ h2 h3]; rfl
theorem cardR_r (r s : Int) (h : outB r 0 12) : cardR r s = (0, 2) := by unfold cardR; rw [outB_inB _ _ _ h]; rfl
theorem cardR_s (r s : Int) (h : outB s 0 3) : cardR r s = (0, 2) := by unfold cardR; rw [outB_inB _ _ _ h, Bool.and_false]; rfl
set_option maxHeartbeats 400000 in
theorem specCard_any (x : Int) (w : World) :
    Calls Tryd.prog 40 #[.int .i64 x] w fun e w' => e = .returned (.bool (inB x 0 51)) ∧ w = w' := by
  go_enter Tryd.func40, Tryd.ntmps40
  go_wp2_with (go_at_call 50; refine (specIn_any _ _ _ _).mono ?_; rintro e w1 ⟨rfl, rfl⟩)
  go_ret
  exact ⟨rfl, rfl⟩
theorem specCard_yes (x : Int) (w : World) (h0 : 0 ≤ x) (h1 : x < 52) :
    Calls Tryd.prog 40 #[.int .i64 x] w fun e w' => e = .returned (.bool true) ∧ w = w' :=
  (specCard_any x w).mono fun _ _ ⟨he, hw⟩ => ⟨by rw [he, isC_yes x h0 h1], hw⟩
theorem specCard_no (x : Int) (w : World) (h : x < 0 ∨ 52 ≤ x) :
    Calls Tryd.prog 40 #[.int .i64 x] w fun e w' => e = .returned (.bool false) ∧ w = w' :=
  (specCard_any x w).mono fun _ _ ⟨he, hw⟩ => ⟨by rw [he, isC_no x h], hw⟩

end Go.Proofs.YtoidchkgibngiaaDoor
