/-
  What FnCards draws from its code: a list, and a text of cards, slightly changed at times.
-/
import Derived.Test.YtoidchkgibngiaaDoorDrawList
import Derived.Test.YtoidchkgibngiaaDoorBig
import Derived.Test.YtoidchkgibngiaaDoorDamage
import Derived.Test.YtoidchkgibngiaaDoorTextSpec
namespace Go.Proofs.YtoidchkgibngiaaDoor
open Go.RowKit
set_option linter.unusedVariables false

/-- A text that a law draws from its code. -/
def DrawnS (N : Nat) (w : World) (e : Ending) (w' : World) : Prop := ∃ r : ByteArray, e = .returned (.string r) ∧ r.size ≤ N ∧ Below w.heap.size w w'

set_option maxRecDepth 100000 in
set_option maxHeartbeats 1000000 in
theorem drawCardsText_any (a : Option Addr) (L c : Nat) (zs : Nat → Int) (w : World) (hL : L ≤ 4096) (hc : CodeIn w a L zs) :
    Calls Tryd.prog 6 #[.slice a L c] w (DrawnL 53 w) := by
  have K := Lib.hid (from_any a L c zs w hL hc)
  clear hc
  go_enter Tryd.func6, Tryd.ntmps6
  go_wp2_with (go_at_call 21; refine K.out.mono ?_; rintro e w1 ⟨rfl, hs1, hb1⟩; have S1 := Lib.hid hs1; have B1 := Lib.hid hb1; clear hs1 hb1)
  go_wp2_with (go_at_call 20; refine (drawList_any _ _ _ _ _ _ _ (by omega) (by omega) S1.out).mono ?_; rintro e w2 ⟨xs, A, cc, rfl, hl, ho, hs2, hy⟩)
  go_ret
  exact ⟨xs, A, cc, rfl, hl, ho.less B1.out.size, bl_trans' B1.out (Nat.le_refl _) hy⟩

/-- The text of a short list of cards. -/
theorem text_some (A : Option Addr) (c : Nat) (xs : List Int) (w : World) (hr : Rd w A xs) (hn : xs.length ≤ 52) (hb : ∀ x ∈ xs, 0 ≤ x ∧ x < 52) :
    Calls Tryd.prog 26 #[.slice A xs.length c] w fun e w' => ∃ t : ByteArray, e = .returned (.string t) ∧ t.size ≤ 104 ∧ Below w.heap.size w w' :=
  (l02Text_any A c xs w hr (by omega) hb).mono fun e w' ⟨he, hw⟩ => ⟨_, he, by
    show (textT xs).toArray.size ≤ 104
    rw [List.size_toArray, textT_length]; omega, hw⟩

set_option maxRecDepth 100000 in
set_option maxHeartbeats 2000000 in
theorem drawReadCards_any (a : Option Addr) (L c : Nat) (zs : Nat → Int) (w : World) (hL : L ≤ 4096) (hc : CodeIn w a L zs) :
    Calls Tryd.prog 9 #[.slice a L c] w (DrawnS 1000 w) := by
  have K := Lib.hid (from_any a L c zs w hL hc)
  clear hc
  go_enter Tryd.func9, Tryd.ntmps9
  go_wp2_with (go_at_call 21; refine K.out.mono ?_; rintro e w1 ⟨rfl, hs1, hb1⟩; have S1 := Lib.hid hs1; have B1 := Lib.hid hb1; clear hs1 hb1)
  go_wp2_with (go_at_call 28; ((with_reducible refine (next_any _ 8 _ _ _ _ _ (by omega) (by omega) S1.out).mono ?_); rintro e w2 ⟨x, rfl, x0, x1, hs2, hy2⟩; have S2 := Lib.hid hs2; have Y2 := Lib.hid (bl_trans' B1.out (Nat.le_refl _) hy2); clear hs2 hy2))
  go_wp2_with (go_at_call 27; ((with_reducible refine (deal_nilC _ _ _ _ _ _ _ (by omega) (by omega) S2.out).mono ?_); rintro e w3 ⟨xs, A3, c3, rfl, hl3, ho3, hs3, hy3, hr3⟩; have S3 := Lib.hid hs3; have O3 := Lib.hid ho3; have R3 := Lib.hid hr3; have Y3 := Lib.hid (bl_trans' Y2.out (Nat.le_refl _) hy3); clear hs3 ho3 hr3 hy3))
  go_wp2_with (go_at_call 26; ((with_reducible refine (text_some _ _ _ _ O3.out.rd hl3 R3.out).mono ?_); rintro e w4 ⟨t, rfl, ht, hb4⟩; have S4 := Lib.hid (S3.out.below hb4); have Y4 := Lib.hid (bl_trans Y3.out hb4); clear hb4))
  have ht2 : (t.size : Int) ≤ 104 := by omega
  have q0 : 0 ≤ ((t.size : Int) / 2 * 2) % 4 := by omega
  have q1 : ((t.size : Int) / 2 * 2) % 4 ≤ (t.size : Int) := by omega
  have qa : ∀ (W : World) (n : Nat), (Op.stringOp .add t (t.extract 0 n)).run Tryd.prog W = .ok (.string (t ++ t.extract 0 n)) W := fun W n => run_string_add W _ _ (by omega) (by rw [ByteArray.size_extract]; omega)
  go_wp2_with (first
    | (go_at_call 28; ((with_reducible refine (next_any _ 4 _ _ _ _ _ (by omega) (by omega) S4.out).mono ?_); rintro e w5 ⟨y, rfl, y0, y1, hs5, hy5⟩; have S5 := Lib.hid hs5; have Y5 := Lib.hid (bl_trans' Y4.out (Nat.le_refl _) hy5); clear hs5 hy5))
    | (go_at_call 29; ((with_reducible refine (damage_any _ _ _ _ _ _ _ (by omega) S5.out).mono ?_); rintro e w6 ⟨r, rfl, hr6, hs6, hy6⟩; have Y6 := Lib.hid (bl_trans' Y5.out (Nat.le_refl _) hy6); clear hs6 hy6)))
  · go_ret
    exact ⟨r, rfl, by omega, Y6.out⟩
  · go_ret
    exact ⟨_, rfl, by rw [ByteArray.size_append, ByteArray.size_extract]; omega, Y5.out⟩
  · go_ret
    exact ⟨t, rfl, by omega, Y5.out⟩
end Go.Proofs.YtoidchkgibngiaaDoor
