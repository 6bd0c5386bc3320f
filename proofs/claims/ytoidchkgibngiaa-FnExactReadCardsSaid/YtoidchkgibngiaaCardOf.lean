/-
  CardOf: the walks of the program's and of the model's function.
-/
import Derived.Test.YtoidchkgibngiaaRank
namespace Go.Proofs.Ytoidchkgibngiaa
open Go.RowKit
set_option linter.unusedVariables false

set_option maxHeartbeats 400000 in
theorem isRank_any (x : Int) (w : World) : Calls Try.prog 51 #[.int .i64 x] w (Same (.bool (inB x 0 12)) w) := by
  by_cases h1 : x < 0
  · have H := Lib.hid (outB_inB x 0 12 (.inl h1))
    go_enter Try.func51, Try.ntmps51
    go_wp2
    go_ret
    exact ⟨ret_bool (by rw [H.out]), rfl⟩
  · by_cases h2 : x < 13
    · have H := Lib.hid (inB_yes x 0 12 (by omega) (by omega))
      go_enter Try.func51, Try.ntmps51
      go_wp2
      go_ret
      exact ⟨ret_bool (by rw [H.out]), rfl⟩
    · have H := Lib.hid (outB_inB x 0 12 (.inr (by omega)))
      go_enter Try.func51, Try.ntmps51
      go_wp2
      go_ret
      exact ⟨ret_bool (by rw [H.out]), rfl⟩
set_option maxHeartbeats 400000 in
theorem isSuit_any (x : Int) (w : World) : Calls Try.prog 52 #[.int .i64 x] w (Same (.bool (inB x 0 3)) w) := by
  by_cases h1 : x < 0
  · have H := Lib.hid (outB_inB x 0 3 (.inl h1))
    go_enter Try.func52, Try.ntmps52
    go_wp2
    go_ret
    exact ⟨ret_bool (by rw [H.out]), rfl⟩
  · by_cases h2 : x < 4
    · have H := Lib.hid (inB_yes x 0 3 (by omega) (by omega))
      go_enter Try.func52, Try.ntmps52
      go_wp2
      go_ret
      exact ⟨ret_bool (by rw [H.out]), rfl⟩
    · have H := Lib.hid (outB_inB x 0 3 (.inr (by omega)))
      go_enter Try.func52, Try.ntmps52
      go_wp2
      go_ret
      exact ⟨ret_bool (by rw [H.out]), rfl⟩
theorem same_bool {b c : Bool} {w : World} {e : Ending} {w' : World} (h : Same (.bool b) w e w') (hb : b = c) : Same (.bool c) w e w' := hb ▸ h
set_option maxHeartbeats 400000 in
theorem implCardOf_any (r s : Int) (w : World) : Calls Try.prog 24 #[.int .i64 r, .int .i64 s] w (Same (pairV (cardR r s).1 (cardR r s).2) w) := by
  rcases in_or_out r 0 12 with ⟨h1, h2⟩ | hr
  · have K1 := Lib.hid (fun W : World => (isRank_any r W).mono fun _ _ h => same_bool h (inB_yes _ _ _ h1 h2))
    rcases in_or_out s 0 3 with ⟨h3, h4⟩ | hs
    · have K2 := Lib.hid (fun W : World => (isSuit_any s W).mono fun _ _ h => same_bool h (inB_yes _ _ _ h3 h4))
      have H : Hid (cardR r s = (r * 4 + s, 0)) := Lib.hid (by rw [cardR_yes r s h1 h2 h3 h4]; congr 1; omega)
      go_enter Try.func24, Try.ntmps24
      go_wp2_with (first | (go_at_call 51; refine (K1.out _).mono ?_; rintro e w1 ⟨rfl, rfl⟩) | (go_at_call 52; refine (K2.out _).mono ?_; rintro e w1 ⟨rfl, rfl⟩))
      go_ret2
      exact same_pair H.out.symm rfl
    · have K2 := Lib.hid (fun W : World => (isSuit_any s W).mono fun _ _ h => same_bool h (outB_inB _ _ _ hs))
      have H := Lib.hid (cardR_s r s hs)
      clear hs
      go_enter Try.func24, Try.ntmps24
      go_wp2_with (first | (go_at_call 51; refine (K1.out _).mono ?_; rintro e w1 ⟨rfl, rfl⟩) | (go_at_call 52; refine (K2.out _).mono ?_; rintro e w1 ⟨rfl, rfl⟩))
      go_ret2
      exact same_pair H.out.symm rfl
  · have K1 := Lib.hid (fun W : World => (isRank_any r W).mono fun _ _ h => same_bool h (outB_inB _ _ _ hr))
    have H := Lib.hid (cardR_r r s hr)
    clear hr
    go_enter Try.func24, Try.ntmps24
    go_wp2_with (go_at_call 51; refine (K1.out _).mono ?_; rintro e w1 ⟨rfl, rfl⟩)
    go_ret2
    exact same_pair H.out.symm rfl
set_option maxHeartbeats 400000 in
theorem specCardOf_any (r s : Int) (w : World) : Calls Try.prog 25 #[.int .i64 r, .int .i64 s] w (Same (pairV (cardR r s).1 (cardR r s).2) w) := by
  rcases in_or_out r 0 12 with ⟨h1, h2⟩ | hr
  · rcases in_or_out s 0 3 with ⟨h3, h4⟩ | hs
    · have H := Lib.hid (cardR_yes r s h1 h2 h3 h4)
      go_enter Try.func25, Try.ntmps25
      go_wp2_with (go_at_call 53; ((with_reducible refine (specIn_yes _ _ _ _ h1 h2).mono ?_); rintro e w1 ⟨rfl, rfl⟩))
      go_wp2_with (go_at_call 53; ((with_reducible refine (specIn_yes _ _ _ _ h3 h4).mono ?_); rintro e w1 ⟨rfl, rfl⟩))
      go_ret2
      exact same_pair H.out.symm rfl
    · have H := Lib.hid (cardR_s r s hs)
      have HN := Lib.hid hs
      clear hs
      go_enter Try.func25, Try.ntmps25
      go_wp2_with (go_at_call 53; ((with_reducible refine (specIn_yes _ _ _ _ h1 h2).mono ?_); rintro e w1 ⟨rfl, rfl⟩))
      go_wp2_with (go_at_call 53; ((with_reducible refine (specIn_no _ _ _ _ HN.out).mono ?_); rintro e w1 ⟨rfl, rfl⟩))
      go_ret2
      exact same_pair H.out.symm rfl
  · have H := Lib.hid (cardR_r r s hr)
    have HN := Lib.hid hr
    clear hr
    go_enter Try.func25, Try.ntmps25
    go_wp2_with (go_at_call 53; ((with_reducible refine (specIn_no _ _ _ _ HN.out).mono ?_); rintro e w1 ⟨rfl, rfl⟩))
    go_ret2
    exact same_pair H.out.symm rfl

end Go.Proofs.Ytoidchkgibngiaa
