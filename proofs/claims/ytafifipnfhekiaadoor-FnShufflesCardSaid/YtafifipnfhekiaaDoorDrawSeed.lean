/-
  What chapter 3's laws draw as a seed: a number.
-/
import Derived.Test.YtafifipnfhekiaaDoorPick
import Derived.Test.YtafifipnfhekiaaDoorBig
import Derived.Test.YtafifipnfhekiaaDoorDeckPure
namespace Go.Proofs.YtafifipnfhekiaaDoor
open Go.RowKit
set_option linter.unusedVariables false

/-- The next seed is one. -/
theorem nextS_pos (x : Int) (h0 : 1 ≤ x) (h1 : x ≤ 2147483646) : 1 ≤ nextS x := by unfold nextS; omega
theorem seed_row (w : World) (s : Nat) (a : Option Addr) (L c : Nat) (zs : Nat → Int) (h : Src w s a L c zs) :
    Calls Tryd.prog 37 #[.pointer (some ⟨s, 0, none⟩), .slice (some ⟨w.heap.size, 0, none⟩) 5 5] (w.alloc (.cells #[.int .i64 0, .int .i64 1, .int .i64 2147483646, .int .i64 2147483647, .int .i64 (-5)] 2)) (Drew (-5) 2147483647 (w.alloc (.cells #[.int .i64 0, .int .i64 1, .int .i64 2147483646, .int .i64 2147483647, .int .i64 (-5)] 2)) s a L c zs) := by
  have hs := src_lt h
  refine pick_any s w.heap.size 5 (rowOf [0, 1, 2147483646, 2147483647, -5]) (-5) 2147483647 a L c zs _ (by omega) (by omega) (fun i hi => row_new [0, 1, 2147483646, 2147483647, -5] 2 w i hi) (fun i hi => ?_) (by omega) (src_alloc h _)
  match i, hi with
  | 0, _ => exact ⟨by decide, by decide⟩
  | 1, _ => exact ⟨by decide, by decide⟩
  | 2, _ => exact ⟨by decide, by decide⟩
  | 3, _ => exact ⟨by decide, by decide⟩
  | 4, _ => exact ⟨by decide, by decide⟩

set_option maxRecDepth 100000 in
set_option maxHeartbeats 1000000 in
theorem drawSeed_any (s : Nat) (a : Option Addr) (L c : Nat) (zs : Nat → Int) (w : World) (h : Src w s a L c zs) :
    Calls Tryd.prog 20 #[.pointer (some ⟨s, 0, none⟩)] w (Drew (-5) 2147483647 w s a L c zs) := by
  go_enter Tryd.func20, Tryd.ntmps20
  go_wp2_with (first
    | (go_at_call 29; first | ((with_reducible refine (next_any _ _ _ _ _ _ w (by omega) (by omega) h).mono ?_); rintro e w1 ⟨x, rfl, x0, x1, hs1, ho1⟩) | ((with_reducible refine (next_any _ _ _ _ _ _ _ (by omega) (by omega) hs1).mono ?_); rintro e w2 ⟨y, rfl, y0, y1, hs2, ho2⟩))
    | (go_at_call 37; refine (seed_row _ _ _ _ _ _ hs1).mono ?_; rintro e w2 ⟨y, rfl, y0, y1, hs2, ho2⟩))
  all_goals
    go_ret
    exact ⟨_, rfl, by omega, by omega, hs2, by first | exact only_trans ho1 ho2 | exact only_trans (only_alloc ho1 _) ho2⟩

/-- A number that a law draws from its code. -/
def DrawnN (w : World) (e : Ending) (w' : World) : Prop := ∃ x : Int, e = .returned (.int .i64 x) ∧ Below w.heap.size w w'
theorem below_src' {w w1 w2 : World} {s : Nat} (hb : Below w.heap.size w w1) (hs : w.heap.size ≤ s) (hy : Only s w1 w2) : Below w.heap.size w w2 :=
  Below.grown (row := some s) hb hy hb.size (fun j hj => by injection hj with hj; omega)

set_option maxRecDepth 100000 in
set_option maxHeartbeats 1000000 in
theorem drawShuffledDeck_any (a : Option Addr) (L c : Nat) (zs : Nat → Int) (w : World) (hL : L ≤ 4096) (hc : CodeIn w a L zs) :
    Calls Tryd.prog 6 #[.slice a L c] w (DrawnN w) := by
  have K := Lib.hid (from_any a L c zs w hL hc)
  clear hc
  go_enter Tryd.func6, Tryd.ntmps6
  go_wp2_with (go_at_call 21; refine K.out.mono ?_; rintro e w1 ⟨rfl, hs1, hb1⟩; have S1 := Lib.hid hs1; have B1 := Lib.hid hb1; clear hs1 hb1)
  go_wp2_with (go_at_call 20; refine (drawSeed_any _ _ _ _ _ _ S1.out).mono ?_; rintro e w2 ⟨x, rfl, x0, x1, hs2, hy⟩; have HY := Lib.hid hy; clear hy hs2)
  go_ret
  exact ⟨x, rfl, below_src' B1.out (Nat.le_refl _) HY.out⟩

set_option maxRecDepth 100000 in
set_option maxHeartbeats 1000000 in
theorem drawNextSeed_any (a : Option Addr) (L c : Nat) (zs : Nat → Int) (w : World) (hL : L ≤ 4096) (hc : CodeIn w a L zs) :
    Calls Tryd.prog 12 #[.slice a L c] w (DrawnN w) := by
  have K := Lib.hid (from_any a L c zs w hL hc)
  clear hc
  go_enter Tryd.func12, Tryd.ntmps12
  go_wp2_with (go_at_call 21; refine K.out.mono ?_; rintro e w1 ⟨rfl, hs1, hb1⟩; have S1 := Lib.hid hs1; have B1 := Lib.hid hb1; clear hs1 hb1)
  go_wp2_with (go_at_call 20; refine (drawSeed_any _ _ _ _ _ _ S1.out).mono ?_; rintro e w2 ⟨x, rfl, x0, x1, hs2, hy⟩; have HY := Lib.hid hy; clear hy hs2)
  go_ret
  exact ⟨x, rfl, below_src' B1.out (Nat.le_refl _) HY.out⟩
end Go.Proofs.YtafifipnfhekiaaDoor
