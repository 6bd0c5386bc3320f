/-
  What chapter 2's laws draw from their code: a list, a card, a rank and a suit.
-/
import Derived.Test.YtoidchkgibngiaaDrawList
import Derived.Test.YtoidchkgibngiaaBig
namespace Go.Proofs.Ytoidchkgibngiaa
open Go.RowKit
set_option linter.unusedVariables false

theorem codeIn_below {w w' : World} {a : Option Addr} {L : Nat} {zs : Nat → Int} (h : CodeIn w a L zs) (hb : Below w.heap.size w w') : CodeIn w' a L zs := by
  rcases h with h | ⟨b, off, e, h⟩
  · exact .inl h
  · exact .inr ⟨b, off, e, codeAt_below h hb⟩
/-- A number that a law draws from its code. -/
def DrawnI (lo hi : Int) (w : World) (e : Ending) (w' : World) : Prop := ∃ x : Int, e = .returned (.int .i64 x) ∧ lo ≤ x ∧ x ≤ hi ∧ Below w.heap.size w w'
def DrawnP (lo hi : Int) (w : World) (e : Ending) (w' : World) : Prop := ∃ x y : Int, e = .returned (pairV x y) ∧ lo ≤ x ∧ x ≤ hi ∧ lo ≤ y ∧ y ≤ hi ∧ Below w.heap.size w w'

set_option maxRecDepth 100000 in
set_option maxHeartbeats 1000000 in
theorem drawRanksIn_any (a : Option Addr) (L c : Nat) (zs : Nat → Int) (w : World) (hL : L ≤ 4096) (hc : CodeIn w a L zs) :
    Calls Try.prog 13 #[.slice a L c] w (DrawnL 53 w) := by
  have K := Lib.hid (from_any a L c zs w hL hc)
  clear hc
  go_enter Try.func13, Try.ntmps13
  go_wp2_with (go_at_call 39; refine K.out.mono ?_; rintro e w1 ⟨rfl, hs1, hb1⟩; have S1 := Lib.hid hs1; have B1 := Lib.hid hb1; clear hs1 hb1)
  go_wp2_with (go_at_call 38; refine (drawList_any _ _ _ _ _ _ _ (by omega) (by omega) S1.out).mono ?_; rintro e w2 ⟨xs, A, cc, rfl, hl, ho, hs2, hy⟩)
  go_ret
  exact ⟨xs, A, cc, rfl, hl, ho.less B1.out.size, bl_trans' B1.out (Nat.le_refl _) hy⟩

set_option maxRecDepth 100000 in
set_option maxHeartbeats 1000000 in
theorem drawRankOf_any (a : Option Addr) (L c : Nat) (zs : Nat → Int) (w : World) (hL : L ≤ 4096) (hc : CodeIn w a L zs) :
    Calls Try.prog 18 #[.slice a L c] w (DrawnI (-1) 52 w) := by
  have K := Lib.hid (from_any a L c zs w hL hc)
  clear hc
  go_enter Try.func18, Try.ntmps18
  go_wp2_with (go_at_call 39; refine K.out.mono ?_; rintro e w1 ⟨rfl, hs1, hb1⟩; have S1 := Lib.hid hs1; have B1 := Lib.hid hb1; clear hs1 hb1)
  go_wp2_with (go_at_call 45; refine (drawCard_any _ _ _ _ _ _ S1.out).mono ?_; rintro e w2 ⟨x, rfl, x0, x1, hs2, hy⟩)
  go_ret
  exact ⟨x, rfl, x0, x1, bl_trans' B1.out (Nat.le_refl _) hy⟩

set_option maxRecDepth 100000 in
set_option maxHeartbeats 1000000 in
theorem drawCardOf_any (a : Option Addr) (L c : Nat) (zs : Nat → Int) (w : World) (hL : L ≤ 4096) (hc : CodeIn w a L zs) :
    Calls Try.prog 23 #[.slice a L c] w (DrawnP (-100) 100 w) := by
  have K := Lib.hid (from_any a L c zs w hL hc)
  clear hc
  go_enter Try.func23, Try.ntmps23
  go_wp2_with (go_at_call 39; refine K.out.mono ?_; rintro e w1 ⟨rfl, hs1, hb1⟩; have S1 := Lib.hid hs1; have B1 := Lib.hid hb1; clear hs1 hb1)
  go_wp2_with (go_at_call 50; ((with_reducible refine (next_any _ 14 _ _ _ _ _ (by omega) (by omega) S1.out).mono ?_); rintro e w2 ⟨x2, rfl, a2, b2, hs2, hy2⟩; have S2 := Lib.hid hs2; have Y2 := Lib.hid (bl_trans' B1.out (Nat.le_refl _) hy2); clear hs2 hy2))
  go_wp2_with (go_at_call 50; ((with_reducible refine (next_any _ 16 _ _ _ _ _ (by omega) (by omega) S2.out).mono ?_); rintro e w3 ⟨x3, rfl, a3, b3, hs3, hy3⟩; have S3 := Lib.hid hs3; have Y3 := Lib.hid (bl_trans' Y2.out (Nat.le_refl _) hy3); clear hs3 hy3))
  go_wp2_with (go_at_call 50; ((with_reducible refine (next_any _ 5 _ _ _ _ _ (by omega) (by omega) S3.out).mono ?_); rintro e w4 ⟨x4, rfl, a4, b4, hs4, hy4⟩; have S4 := Lib.hid hs4; have Y4 := Lib.hid (bl_trans' Y3.out (Nat.le_refl _) hy4); clear hs4 hy4))
  go_wp2_with (go_at_call 50; ((with_reducible refine (next_any _ 16 _ _ _ _ _ (by omega) (by omega) S4.out).mono ?_); rintro e w5 ⟨x5, rfl, a5, b5, hs5, hy5⟩; have Y5 := Lib.hid (bl_trans' Y4.out (Nat.le_refl _) hy5); clear hs5 hy5))
  go_ret2
  exact ⟨_, _, rfl, by omega, by omega, by omega, by omega, Y5.out⟩

end Go.Proofs.Ytoidchkgibngiaa
