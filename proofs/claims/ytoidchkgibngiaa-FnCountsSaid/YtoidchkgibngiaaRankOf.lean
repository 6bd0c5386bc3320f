/-
  RankOf: the walks of the program's and of the model's function.
-/
import Derived.Test.YtoidchkgibngiaaRank
namespace Go.Proofs.Ytoidchkgibngiaa
open Go.RowKit
set_option linter.unusedVariables false

set_option maxHeartbeats 400000 in
theorem implRankOf_any (x : Int) (w : World) : Calls Try.prog 19 #[.int .i64 x] w (Same (pairV (rankR x).1 (rankR x).2) w) := by
  by_cases h0 : 0 ≤ x ∧ x < 52
  · have H := Lib.hid (rankR_yes x h0.1 h0.2)
    obtain ⟨h1, h2⟩ := h0
    go_enter Try.func19, Try.ntmps19
    go_wp2_with (go_at_call 46; refine (isCard_yes _ _ h1 h2).mono ?_; rintro e w1 ⟨rfl, rfl⟩)
    go_wp2_with (go_at_call 47; refine (rank_any _ _ h1 h2).mono ?_; rintro e w1 ⟨rfl, rfl⟩)
    go_ret2
    exact same_pair H.out.symm rfl
  · have hn : x < 0 ∨ 52 ≤ x := by omega
    have H := Lib.hid (rankR_no x hn)
    have HN := Lib.hid hn
    clear h0 hn
    go_enter Try.func19, Try.ntmps19
    go_wp2_with (go_at_call 46; refine (isCard_no _ _ HN.out).mono ?_; rintro e w1 ⟨rfl, rfl⟩)
    go_ret2
    exact same_pair H.out.symm rfl
set_option maxHeartbeats 400000 in
theorem specRankOf_any (x : Int) (w : World) : Calls Try.prog 20 #[.int .i64 x] w (Same (pairV (rankR x).1 (rankR x).2) w) := by
  by_cases h0 : 0 ≤ x ∧ x < 52
  · have H := Lib.hid (rankR_yes x h0.1 h0.2)
    obtain ⟨h1, h2⟩ := h0
    go_enter Try.func20, Try.ntmps20
    go_wp2_with (go_at_call 48; refine (specCard_yes _ _ h1 h2).mono ?_; rintro e w1 ⟨rfl, rfl⟩)
    go_ret2
    exact same_pair H.out.symm rfl
  · have hn : x < 0 ∨ 52 ≤ x := by omega
    have H := Lib.hid (rankR_no x hn)
    have HN := Lib.hid hn
    clear h0 hn
    go_enter Try.func20, Try.ntmps20
    go_wp2_with (go_at_call 48; refine (specCard_no _ _ HN.out).mono ?_; rintro e w1 ⟨rfl, rfl⟩)
    go_ret2
    exact same_pair H.out.symm rfl

end Go.Proofs.Ytoidchkgibngiaa
