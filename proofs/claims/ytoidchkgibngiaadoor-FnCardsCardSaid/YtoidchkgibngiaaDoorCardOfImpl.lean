/-
  CardOf: the walk of the program's function.
-/
import Derived.Test.YtoidchkgibngiaaDoorRank
namespace Go.Proofs.YtoidchkgibngiaaDoor
open Go.RowKit
set_option linter.unusedVariables false

set_option maxHeartbeats 400000 in
theorem isRank_any (x : Int) (w : World) : Calls Tryd.prog 42 #[.int .i64 x] w (Same (.bool (inB x 0 12)) w) := by
  by_cases h1 : x < 0
  · have H := Lib.hid (outB_inB x 0 12 (.inl h1))
    go_enter Tryd.func42, Tryd.ntmps42
    go_wp2
    go_ret
    exact ⟨ret_bool (by rw [H.out]), rfl⟩
  · by_cases h2 : x < 13
    · have H := Lib.hid (inB_yes x 0 12 (by omega) (by omega))
      go_enter Tryd.func42, Tryd.ntmps42
      go_wp2
      go_ret
      exact ⟨ret_bool (by rw [H.out]), rfl⟩
    · have H := Lib.hid (outB_inB x 0 12 (.inr (by omega)))
      go_enter Tryd.func42, Tryd.ntmps42
      go_wp2
      go_ret
      exact ⟨ret_bool (by rw [H.out]), rfl⟩
set_option maxHeartbeats 400000 in
theorem isSuit_any (x : Int) (w : World) : Calls Tryd.prog 43 #[.int .i64 x] w (Same (.bool (inB x 0 3)) w) := by
  by_cases h1 : x < 0
  · have H := Lib.hid (outB_inB x 0 3 (.inl h1))
    go_enter Tryd.func43, Tryd.ntmps43
    go_wp2
    go_ret
    exact ⟨ret_bool (by rw [H.out]), rfl⟩
  · by_cases h2 : x < 4
    · have H := Lib.hid (inB_yes x 0 3 (by omega) (by omega))
      go_enter Tryd.func43, Tryd.ntmps43
      go_wp2
      go_ret
      exact ⟨ret_bool (by rw [H.out]), rfl⟩
    · have H := Lib.hid (outB_inB x 0 3 (.inr (by omega)))
      go_enter Tryd.func43, Tryd.ntmps43
      go_wp2
      go_ret
      exact ⟨ret_bool (by rw [H.out]), rfl⟩
theorem same_bool {b c : Bool} {w : World} {e : Ending} {w' : World} (h : Same (.bool b) w e w') (hb : b = c) : Same (.bool c) w e w' := hb ▸ h
set_option maxHeartbeats 400000 in
theorem implCardOf_any (r s : Int) (w : World) : Calls Tryd.prog 31 #[.int .i64 r, .int .i64 s] w (Same (pairV (cardR r s).1 (cardR r s).2) w) := by
  rcases in_or_out r 0 12 with ⟨h1, h2⟩ | hr
  · have K1 := Lib.hid (fun W : World => (isRank_any r W).mono fun _ _ h => same_bool h (inB_yes _ _ _ h1 h2))
    rcases in_or_out s 0 3 with ⟨h3, h4⟩ | hs
    · have K2 := Lib.hid (fun W : World => (isSuit_any s W).mono fun _ _ h => same_bool h (inB_yes _ _ _ h3 h4))
      have H : Hid (cardR r s = (r * 4 + s, 0)) := Lib.hid (by rw [cardR_yes r s h1 h2 h3 h4]; congr 1; omega)
      go_enter Tryd.func31, Tryd.ntmps31
      go_wp2_with (first | (go_at_call 42; refine (K1.out _).mono ?_; rintro e w1 ⟨rfl, rfl⟩) | (go_at_call 43; refine (K2.out _).mono ?_; rintro e w1 ⟨rfl, rfl⟩))
      go_ret2
      exact same_pair H.out.symm rfl
    · have K2 := Lib.hid (fun W : World => (isSuit_any s W).mono fun _ _ h => same_bool h (outB_inB _ _ _ hs))
      have H := Lib.hid (cardR_s r s hs)
      clear hs
      go_enter Tryd.func31, Tryd.ntmps31
      go_wp2_with (first | (go_at_call 42; refine (K1.out _).mono ?_; rintro e w1 ⟨rfl, rfl⟩) | (go_at_call 43; refine (K2.out _).mono ?_; rintro e w1 ⟨rfl, rfl⟩))
      go_ret2
      exact same_pair H.out.symm rfl
  · have K1 := Lib.hid (fun W : World => (isRank_any r W).mono fun _ _ h => same_bool h (outB_inB _ _ _ hr))
    have H := Lib.hid (cardR_r r s hr)
    clear hr
    go_enter Tryd.func31, Tryd.ntmps31
    go_wp2_with (go_at_call 42; refine (K1.out _).mono ?_; rintro e w1 ⟨rfl, rfl⟩)
    go_ret2
    exact same_pair H.out.symm rfl

end Go.Proofs.YtoidchkgibngiaaDoor
