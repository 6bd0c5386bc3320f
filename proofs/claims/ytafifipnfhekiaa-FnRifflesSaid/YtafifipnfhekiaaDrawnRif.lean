/-
  What chapter 3's laws on riffles draw from their code.
-/
import Derived.Test.YtafifipnfhekiaaDrawDeck
namespace Go.Proofs.Ytafifipnfhekiaa
open Go.RowKit
set_option linter.unusedVariables false

set_option maxRecDepth 100000 in
set_option maxHeartbeats 1000000 in
theorem drawRiffleDeck_any (a : Option Addr) (L c : Nat) (zs : Nat → Int) (w : World) (hL : L ≤ 4096) (hc : CodeIn w a L zs) :
    Calls Try.prog 14 #[.slice a L c] w (DrawnR w) := by
  have K := Lib.hid (from_any a L c zs w hL hc)
  clear hc
  go_enter Try.func14, Try.ntmps14
  go_wp2_with (go_at_call 45; refine K.out.mono ?_; rintro e w1 ⟨rfl, hs1, hb1⟩; have S1 := Lib.hid hs1; have B1 := Lib.hid hb1; clear hs1 hb1)
  go_wp2_with (go_at_call 44; refine (drawDeck_any _ _ _ _ _ _ S1.out).mono ?_; rintro e w2 ⟨xs, A, cc, rfl, hl, hcap, hr, hA, hs2, hy⟩)
  go_ret
  exact ⟨xs, A, cc, rfl, hl, hcap, hr, below_src B1.out (Nat.le_refl _) hy⟩

set_option maxRecDepth 100000 in
set_option maxHeartbeats 1000000 in
theorem drawUnriffleDeck_any (a : Option Addr) (L c : Nat) (zs : Nat → Int) (w : World) (hL : L ≤ 4096) (hc : CodeIn w a L zs) :
    Calls Try.prog 17 #[.slice a L c] w (DrawnR w) := by
  have K := Lib.hid (from_any a L c zs w hL hc)
  clear hc
  go_enter Try.func17, Try.ntmps17
  go_wp2_with (go_at_call 45; refine K.out.mono ?_; rintro e w1 ⟨rfl, hs1, hb1⟩; have S1 := Lib.hid hs1; have B1 := Lib.hid hb1; clear hs1 hb1)
  go_wp2_with (go_at_call 44; refine (drawDeck_any _ _ _ _ _ _ S1.out).mono ?_; rintro e w2 ⟨xs, A, cc, rfl, hl, hcap, hr, hA, hs2, hy⟩)
  go_ret
  exact ⟨xs, A, cc, rfl, hl, hcap, hr, below_src B1.out (Nat.le_refl _) hy⟩
end Go.Proofs.Ytafifipnfhekiaa
