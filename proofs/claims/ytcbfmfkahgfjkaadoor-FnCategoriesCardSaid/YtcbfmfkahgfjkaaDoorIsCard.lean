/-
  Whether a number is a card: both texts' walks.
-/
import Derived.Test.YtcbfmfkahgfjkaaDoorIn
import Derived.Test.YtcbfmfkahgfjkaaDoorCardSet
import Derived.BigQuiet
namespace Go.Proofs.YtcbfmfkahgfjkaaDoor
open Go.RowKit

theorem isC_yes (x : Int) (h0 : 0 ≤ x) (h1 : x < 52) : inB x 0 51 = true := inB_yes _ _ _ h0 (by omega)
theorem isC_no (x : Int) (h : x < 0 ∨ 52 ≤ x) : inB x 0 51 = false := outB_inB _ _ _ (by unfold outB; omega)
set_option maxHeartbeats 400000 in
theorem isCard_any (x : Int) (w : World) :
    Calls Tryd.prog 103 #[.int .i64 x] w fun e w' => e = .returned (.bool (inB x 0 51)) ∧ w = w' := by
  by_cases h1 : x < 0
  · have H := Lib.hid (isC_no x (.inl h1))
    go_enter Tryd.func103, Tryd.ntmps103
    go_wp2
    go_ret
    exact ⟨ret_bool (by rw [H.out]), rfl⟩
  · by_cases h2 : x < 52
    · have H := Lib.hid (isC_yes x (by omega) h2)
      go_enter Tryd.func103, Tryd.ntmps103
      go_wp2
      go_ret
      exact ⟨ret_bool (by rw [H.out]), rfl⟩
    · have H := Lib.hid (isC_no x (.inr (by omega)))
      go_enter Tryd.func103, Tryd.ntmps103
      go_wp2
      go_ret
      exact ⟨ret_bool (by rw [H.out]), rfl⟩
theorem isCard_yes (x : Int) (w : World) (h0 : 0 ≤ x) (h1 : x < 52) :
    Calls Tryd.prog 103 #[.int .i64 x] w fun e w' => e = .returned (.bool true) ∧ w = w' :=
  (isCard_any x w).mono fun _ _ ⟨he, hw⟩ => ⟨by rw [he, isC_yes x h0 h1], hw⟩
theorem isCard_no (x : Int) (w : World) (h : x < 0 ∨ 52 ≤ x) :
    Calls Tryd.prog 103 #[.int .i64 x] w fun e w' => e = .returned (.bool false) ∧ w = w' :=
  (isCard_any x w).mono fun _ _ ⟨he, hw⟩ => ⟨by rw [he, isC_no x h], hw⟩

set_option maxHeartbeats 400000 in
theorem specCard_any (x : Int) (w : World) :
    Calls Tryd.prog 94 #[.int .i64 x] w fun e w' => e = .returned (.bool (inB x 0 51)) ∧ w = w' := by
  go_enter Tryd.func94, Tryd.ntmps94
  go_wp2_with (go_at_call 70; refine (specIn_any _ _ _ _).mono ?_; rintro e w1 ⟨rfl, rfl⟩)
  go_ret
  exact ⟨rfl, rfl⟩
theorem specCard_yes (x : Int) (w : World) (h0 : 0 ≤ x) (h1 : x < 52) :
    Calls Tryd.prog 94 #[.int .i64 x] w fun e w' => e = .returned (.bool true) ∧ w = w' :=
  (specCard_any x w).mono fun _ _ ⟨he, hw⟩ => ⟨by rw [he, isC_yes x h0 h1], hw⟩
theorem specCard_no (x : Int) (w : World) (h : x < 0 ∨ 52 ≤ x) :
    Calls Tryd.prog 94 #[.int .i64 x] w fun e w' => e = .returned (.bool false) ∧ w = w' :=
  (specCard_any x w).mono fun _ _ ⟨he, hw⟩ => ⟨by rw [he, isC_no x h], hw⟩

end Go.Proofs.YtcbfmfkahgfjkaaDoor
