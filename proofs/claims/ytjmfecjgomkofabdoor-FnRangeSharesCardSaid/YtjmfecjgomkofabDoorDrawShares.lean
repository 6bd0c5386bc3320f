/-
  What the law FnRangeShares draws: a range and dead cards; a range.
-/
import Derived.Test.YtjmfecjgomkofabDoorDrawRng
import Derived.Test.YtjmfecjgomkofabDoorRngShare
namespace Go.Proofs.YtjmfecjgomkofabDoor
open Go.RowKit
set_option linter.unusedVariables false

set_option maxRecDepth 100000 in
set_option maxHeartbeats 1000000 in
theorem drawShareOf_any (a : Option Addr) (L c : Nat) (zs : Nat → Int) (w : World) (hL : L ≤ 4096) (hc : CodeIn w a L zs) :
    Calls Tryd.prog 39 #[.slice a L c] w (DrawnL 170 w) := by
  have KF := Lib.hid (from_any a L c zs w hL hc)
  clear hc
  go_enter Tryd.func39, Tryd.ntmps39
  go_wp2_with (first
    | (go_at_call 41; refine (KF.out).mono ?_; rintro e w1 ⟨rfl, hs1, hb1⟩; have KD := Lib.hid (l08Draw_any _ _ _ _ _ _ hs1); have B1 := Lib.hid hb1; clear hs1 hb1)
    | (go_at_call 70; refine (KD.out).mono ?_; rintro e w2 hd; have D2 := Lib.hid hd; obtain ⟨xs, A2, c2, rfl, _⟩ := hd))
  go_ret
  exact drawnL_of B1.out (Nat.le_refl _) D2.out
set_option maxRecDepth 100000 in
set_option maxHeartbeats 2000000 in
theorem drawCountCombos_any (a : Option Addr) (L c : Nat) (zs : Nat → Int) (w : World) (hL : L ≤ 4096) (hc : CodeIn w a L zs) :
    Calls Tryd.prog 38 #[.slice a L c] w (DrawnTwo 340 w) := by
  have KF := Lib.hid (from_any a L c zs w hL hc)
  clear hc
  go_enter Tryd.func38, Tryd.ntmps38
  go_wp2_with (go_at_call 41; refine (KF.out).mono ?_; rintro e w1 ⟨rfl, hs1, hb1⟩; have KD := Lib.hid (l08Draw_any _ _ _ _ _ _ hs1); have B1 := Lib.hid hb1; have SL := Lib.hid (src_lt hs1); clear hs1 hb1)
  go_wp2_with (go_at_call 70; ((with_reducible refine (KD.out).mono ?_); rintro e w2 ⟨xs, A2, c2, rfl, hl2, ho2, hs2, hy2⟩; have KE := Lib.hid (drawList_any _ 8 _ _ _ _ _ (by omega) (by omega) hs2); have O2 := Lib.hid ho2; have Y2 := Lib.hid hy2; clear ho2 hs2 hy2 KD))
  go_wp2_with (go_at_call 43; ((with_reducible refine (KE.out).mono ?_); rintro e w3 ⟨ys, A3, c3, rfl, hl3, ho3, hs3, hy3⟩; have O3 := Lib.hid ho3; have Y3 := Lib.hid hy3; clear ho3 hs3 hy3 KE))
  have E3 : Hid (Own w3 w1.heap.size (.slice A2 xs.length c2) xs) := Lib.hid (own_only O2.out Y3.out SL.out)
  go_ret2
  exact ⟨_, _, _, _, _, _, rfl, by omega, by omega, E3.out.rd, O3.out.rd, bl_trans' B1.out (Nat.le_refl _) (only_trans Y2.out Y3.out)⟩
end Go.Proofs.YtjmfecjgomkofabDoor
