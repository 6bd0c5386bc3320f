/-
  What chapter 3's laws on cuts draw from their code: a deck, rarely another list, and a number.
-/
import Derived.Test.YtafifipnfhekiaaDrawDeck
namespace Go.Proofs.Ytafifipnfhekiaa
open Go.RowKit
set_option linter.unusedVariables false

set_option maxRecDepth 100000 in
set_option maxHeartbeats 1000000 in
theorem drawCutDeck_any (a : Option Addr) (L c : Nat) (zs : Nat → Int) (w : World) (hL : L ≤ 4096) (hc : CodeIn w a L zs) :
    Calls Try.prog 58 #[.slice a L c] w (DrawnRI w) := by
  have K := Lib.hid (from_any a L c zs w hL hc)
  clear hc
  go_enter Try.func58, Try.ntmps58
  go_wp2_with (go_at_call 45; refine K.out.mono ?_; rintro e w1 ⟨rfl, hs1, hb1⟩; have S1 := Lib.hid hs1; have B1 := Lib.hid hb1; clear hs1 hb1)
  go_wp2_with (go_at_call 44; refine (drawDeck_any _ _ _ _ _ _ S1.out).mono ?_; rintro e w2 ⟨xs, A, cc, rfl, hl, hcap, hr, hA, hs2, hy⟩; have S2 := Lib.hid hs2; have R2 := Lib.hid hr; have Y2 := Lib.hid hy; have HA := Lib.hid hA; clear hs2 hr hy hA)
  have KN := Lib.hid (fun W (h : Src W w.heap.size a L c zs) => next_any w.heap.size 54 a L c zs W (by omega) (by omega) h)
  have KM := Lib.hid (fun W (h : Src W w.heap.size a L c zs) => next_any w.heap.size 20 a L c zs W (by omega) (by omega) h)
  go_wp2_with (go_at_call 51; first | ((with_reducible refine (KN.out _ S2.out).mono ?_); rintro e w3 ⟨x, rfl, x0, x1, hs3, ho3⟩; have S3 := Lib.hid hs3; have Y3 := Lib.hid ho3; clear hs3 ho3) | ((with_reducible refine (KM.out _ S3.out).mono ?_); rintro e w4 ⟨y, rfl, y0, y1, hs4, ho4⟩; have Y4 := Lib.hid ho4; clear hs4 ho4))
  go_ret2
  have hs1 := src_lt S1.out
  have r3 := rd_only R2.out Y3.out hs1 HA.out
  have r4 := rd_only r3 Y4.out hs1 HA.out
  exact ⟨xs, A, cc, _, rfl, hl, hcap, r4, below_src B1.out (Nat.le_refl _) (only_trans (only_trans Y2.out Y3.out) Y4.out)⟩
end Go.Proofs.Ytafifipnfhekiaa
