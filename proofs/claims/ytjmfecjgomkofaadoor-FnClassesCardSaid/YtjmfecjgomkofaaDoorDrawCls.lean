/-
  What the laws of classes draw from their code.
-/
import Derived.Test.YtjmfecjgomkofaaDoorDrawList
import Derived.Test.YtjmfecjgomkofaaDoorDraws
import Derived.Test.YtjmfecjgomkofaaDoorClsText
namespace Go.Proofs.YtjmfecjgomkofaaDoor
open Go.RowKit
set_option linter.unusedVariables false

theorem cls_row (w : World) (s : Nat) (a : Option Addr) (L c : Nat) (zs : Nat → Int) (h : Src w s a L c zs) :
    Calls Tryd.prog 32 #[.pointer (some ⟨s, 0, none⟩), .slice (some ⟨w.heap.size, 0, none⟩) 4 4] (w.alloc (.cells #[.int .i64 (-1), .int .i64 0, .int .i64 168, .int .i64 169] 2)) (Drew (-1) 169 (w.alloc (.cells #[.int .i64 (-1), .int .i64 0, .int .i64 168, .int .i64 169] 2)) s a L c zs) := by
  have hs := src_lt h
  refine pick_any s w.heap.size 4 (rowOf [-1, 0, 168, 169]) (-1) 169 a L c zs _ (by omega) (by omega) (fun i hi => row_new [-1, 0, 168, 169] 2 w i hi) (fun i hi => ?_) (by omega) (src_alloc h _)
  match i, hi with
  | 0, _ => exact ⟨by decide, by decide⟩
  | 1, _ => exact ⟨by decide, by decide⟩
  | 2, _ => exact ⟨by decide, by decide⟩
  | 3, _ => exact ⟨by decide, by decide⟩
set_option maxRecDepth 100000 in
set_option maxHeartbeats 1000000 in
theorem drawClass_any (s : Nat) (a : Option Addr) (L c : Nat) (zs : Nat → Int) (w : World) (h : Src w s a L c zs) :
    Calls Tryd.prog 24 #[.pointer (some ⟨s, 0, none⟩)] w (Drew (-1) 169 w s a L c zs) := by
  go_enter Tryd.func24, Tryd.ntmps24
  go_wp2_with (first
    | (go_at_call 17; first | ((with_reducible refine (next_any _ _ _ _ _ _ w (by omega) (by omega) h).mono ?_); rintro e w1 ⟨x, rfl, x0, x1, hs1, ho1⟩) | ((with_reducible refine (next_any _ _ _ _ _ _ _ (by omega) (by omega) hs1).mono ?_); rintro e w2 ⟨y, rfl, y0, y1, hs2, ho2⟩))
    | (go_at_call 32; refine (cls_row _ _ _ _ _ _ hs1).mono ?_; rintro e w2 ⟨y, rfl, y0, y1, hs2, ho2⟩))
  all_goals
    go_ret
    exact ⟨y, rfl, by omega, by omega, hs2, by first | exact only_trans ho1 ho2 | exact only_trans (only_alloc ho1 _) ho2⟩
/-- A number that a law draws from its code. -/
def DrawnI (lo hi : Int) (w : World) (e : Ending) (w' : World) : Prop := ∃ x : Int, e = .returned (.int .i64 x) ∧ lo ≤ x ∧ x ≤ hi ∧ Below w.heap.size w w'
set_option maxRecDepth 100000 in
set_option maxHeartbeats 1000000 in
theorem drawClassText_any (a : Option Addr) (L c : Nat) (zs : Nat → Int) (w : World) (hL : L ≤ 4096) (hc : CodeIn w a L zs) :
    Calls Tryd.prog 8 #[.slice a L c] w (DrawnI (-1) 169 w) := by
  have K := Lib.hid (from_any a L c zs w hL hc)
  clear hc
  go_enter Tryd.func8, Tryd.ntmps8
  go_wp2_with (go_at_call 16; refine K.out.mono ?_; rintro e w1 ⟨rfl, hs1, hb1⟩; have S1 := Lib.hid hs1; have B1 := Lib.hid hb1; clear hs1 hb1)
  go_wp2_with (go_at_call 24; refine (drawClass_any _ _ _ _ _ _ S1.out).mono ?_; rintro e w2 ⟨x, rfl, x0, x1, hs2, hy⟩)
  go_ret
  exact ⟨x, rfl, x0, x1, bl_trans' B1.out (Nat.le_refl _) hy⟩
/-- A number and a list that a law draws from its code. -/
def DrawnIL (lo hi : Int) (N : Nat) (w : World) (e : Ending) (w' : World) : Prop :=
  ∃ (x : Int) (xs : List Int) (A : Option Addr) (cc : Nat), e = .returned (.tuple #[.int .i64 x, .slice A xs.length cc]) ∧ lo ≤ x ∧ x ≤ hi ∧ xs.length ≤ N ∧ Own w' w.heap.size (.slice A xs.length cc) xs ∧ Below w.heap.size w w'
set_option maxRecDepth 100000 in
set_option maxHeartbeats 1000000 in
theorem drawClassOf_any (a : Option Addr) (L c : Nat) (zs : Nat → Int) (w : World) (hL : L ≤ 4096) (hc : CodeIn w a L zs) :
    Calls Tryd.prog 5 #[.slice a L c] w (DrawnL 53 w) := by
  have K := Lib.hid (from_any a L c zs w hL hc)
  clear hc
  go_enter Tryd.func5, Tryd.ntmps5
  go_wp2_with (go_at_call 16; refine K.out.mono ?_; rintro e w1 ⟨rfl, hs1, hb1⟩; have S1 := Lib.hid hs1; have B1 := Lib.hid hb1; clear hs1 hb1)
  go_wp2_with (first
    | (go_at_call 17; ((with_reducible refine (next_any _ 10 _ _ _ _ _ (by omega) (by omega) S1.out).mono ?_); rintro e w2 ⟨x, rfl, x0, x1, hs2, hy2⟩; have S2 := Lib.hid hs2; have Y2 := Lib.hid (bl_trans' B1.out (Nat.le_refl _) hy2); clear hs2 hy2))
    | (go_at_call 18; refine (drawList_any _ _ _ _ _ _ _ (by omega) (by omega) S2.out).mono ?_; rintro e w3 ⟨xs, A, cc, rfl, hl, ho, hs3, hy3⟩)
    | (go_at_call 19; refine (deal_nil _ _ _ _ _ _ _ (by omega) (by omega) S2.out).mono ?_; rintro e w3 ⟨xs, A, cc, rfl, hl, ho, hs3, hy3⟩))
  all_goals
    go_ret
    exact ⟨xs, A, cc, rfl, by omega, ho.less Y2.out.size, bl_trans' Y2.out (Nat.le_refl _) hy3⟩
end Go.Proofs.YtjmfecjgomkofaaDoor
