/-
  DrawReadClass: a class's text, slightly changed at times.
-/
import Derived.Test.YtjmfecjgomkofaaDoorDrawCls
import Derived.Test.YtjmfecjgomkofaaDoorDamage
namespace Go.Proofs.YtjmfecjgomkofaaDoor
open Go.RowKit
set_option linter.unusedVariables false

/-- A text that a law draws from its code. -/
def DrawnS (N : Nat) (w : World) (e : Ending) (w' : World) : Prop := ∃ r : ByteArray, e = .returned (.string r) ∧ r.size ≤ N ∧ Below w.heap.size w w'
theorem clsT_len (k : Int) : (clsT k).length ≤ 3 := by unfold clsT; split <;> (try split) <;> simp
theorem text_short (x : Int) (w : World) (h0 : 0 ≤ x) (h1 : x ≤ 168) : Calls Tryd.prog 28 #[.int .i64 x] w fun e w' => ∃ t : ByteArray, e = .returned (.string t) ∧ t.size ≤ 3 ∧ Below w.heap.size w w' :=
  (l07Text_any x w h0 (by omega)).mono fun e w' ⟨he, hb⟩ => ⟨_, he, by show (clsT x).toArray.size ≤ 3; rw [List.size_toArray]; exact clsT_len x, hb⟩
set_option maxRecDepth 100000 in
set_option maxHeartbeats 2000000 in
theorem drawReadClass_any (a : Option Addr) (L c : Nat) (zs : Nat → Int) (w : World) (hL : L ≤ 4096) (hc : CodeIn w a L zs) :
    Calls Tryd.prog 11 #[.slice a L c] w (DrawnS 1000 w) := by
  have K := Lib.hid (from_any a L c zs w hL hc)
  clear hc
  go_enter Tryd.func11, Tryd.ntmps11
  go_wp2_with (go_at_call 16; refine K.out.mono ?_; rintro e w1 ⟨rfl, hs1, hb1⟩; have S1 := Lib.hid hs1; have B1 := Lib.hid hb1; clear hs1 hb1)
  go_wp2_with (go_at_call 17; ((with_reducible refine (next_any _ 169 _ _ _ _ _ (by omega) (by omega) S1.out).mono ?_); rintro e w2 ⟨x, rfl, x0, x1, hs2, hy2⟩; have S2 := Lib.hid hs2; have Y2 := Lib.hid (bl_trans' B1.out (Nat.le_refl _) hy2); clear hs2 hy2))
  go_wp2_with (go_at_call 28; ((with_reducible refine (text_short _ _ (by omega) (by omega)).mono ?_); rintro e w4 ⟨t, rfl, ht, hb4⟩; have S4 := Lib.hid (S2.out.below hb4); have Y4 := Lib.hid (bl_trans Y2.out hb4); clear hb4))
  go_wp2_with (first
    | (go_at_call 17; ((with_reducible refine (next_any _ 3 _ _ _ _ _ (by omega) (by omega) S4.out).mono ?_); rintro e w5 ⟨y, rfl, y0, y1, hs5, hy5⟩; have S5 := Lib.hid hs5; have Y5 := Lib.hid (bl_trans' Y4.out (Nat.le_refl _) hy5); clear hs5 hy5))
    | (go_at_call 29; ((with_reducible refine (damage_any _ _ _ _ _ _ _ (by omega) S5.out).mono ?_); rintro e w6 ⟨r, rfl, hr6, hs6, hy6⟩; have Y6 := Lib.hid (bl_trans' Y5.out (Nat.le_refl _) hy6); clear hs6 hy6)))
  · go_ret
    exact ⟨r, rfl, by omega, Y6.out⟩
  · go_ret
    exact ⟨t, rfl, by omega, Y5.out⟩
end Go.Proofs.YtjmfecjgomkofaaDoor
