/-
  l02DrawCard: a card, rarely another number.
-/
import Derived.Test.YtafifipnfhekiaaPick
import Derived.Test.YtafifipnfhekiaaBig
namespace Go.Proofs.Ytafifipnfhekiaa
open Go.RowKit
set_option linter.unusedVariables false

theorem edge_row (w : World) (s : Nat) (a : Option Addr) (L c : Nat) (zs : Nat → Int) (h : Src w s a L c zs) :
    Calls Try.prog 52 #[.pointer (some ⟨s, 0, none⟩), .slice (some ⟨w.heap.size, 0, none⟩) 4 4] (w.alloc (.cells #[.int .i64 (-1), .int .i64 0, .int .i64 51, .int .i64 52] 2)) (Drew (-1) 52 (w.alloc (.cells #[.int .i64 (-1), .int .i64 0, .int .i64 51, .int .i64 52] 2)) s a L c zs) := by
  have hs := src_lt h
  refine pick_any s w.heap.size 4 (rowOf [-1, 0, 51, 52]) (-1) 52 a L c zs _ (by omega) (by omega) (fun i hi => row_new [-1, 0, 51, 52] 2 w i hi) (fun i hi => ?_) (by omega) (src_alloc h _)
  match i, hi with
  | 0, _ => exact ⟨by decide, by decide⟩
  | 1, _ => exact ⟨by decide, by decide⟩
  | 2, _ => exact ⟨by decide, by decide⟩
  | 3, _ => exact ⟨by decide, by decide⟩

set_option maxRecDepth 100000 in
set_option maxHeartbeats 1000000 in
theorem drawCard_any (s : Nat) (a : Option Addr) (L c : Nat) (zs : Nat → Int) (w : World) (h : Src w s a L c zs) :
    Calls Try.prog 54 #[.pointer (some ⟨s, 0, none⟩)] w (Drew (-1) 52 w s a L c zs) := by
  go_enter Try.func54, Try.ntmps54
  go_wp2_with (first
    | (go_at_call 51; first | ((with_reducible refine (next_any _ _ _ _ _ _ w (by omega) (by omega) h).mono ?_); rintro e w1 ⟨x, rfl, x0, x1, hs1, ho1⟩) | ((with_reducible refine (next_any _ _ _ _ _ _ _ (by omega) (by omega) hs1).mono ?_); rintro e w2 ⟨y, rfl, y0, y1, hs2, ho2⟩))
    | (go_at_call 52; refine (edge_row _ _ _ _ _ _ hs1).mono ?_; rintro e w2 ⟨y, rfl, y0, y1, hs2, ho2⟩))
  all_goals
    go_ret
    exact ⟨y, rfl, by omega, by omega, hs2, by first | exact only_trans ho1 ho2 | exact only_trans (only_alloc ho1 _) ho2⟩
end Go.Proofs.Ytafifipnfhekiaa
