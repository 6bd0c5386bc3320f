/-
  DrawBadugiValue, DrawLowRanks: lists that the law FnBadugis draws from its code.
-/
import Derived.Test.YtajkgnheijhbpaaDrawFour
import Derived.Test.YtajkgnheijhbpaaDrawList
namespace Go.Proofs.Ytajkgnheijhbpaa
open Go.RowKit
set_option linter.unusedVariables false

/-- A list that a law draws. -/
def DrawnR0 (N : Nat) (w : World) (e : Ending) (w' : World) : Prop :=
  ∃ (xs : List Int) (A : Option Addr) (cc : Nat), e = .returned (.slice A xs.length cc) ∧ xs.length ≤ N ∧ xs.length ≤ cc ∧ Rd w' A xs ∧ Below w.heap.size w w'
theorem below_srcN {w w1 w2 : World} {s : Nat} (hb : Below w.heap.size w w1) (hs : w.heap.size ≤ s) (hy : Only s w1 w2) : Below w.heap.size w w2 :=
  Below.grown (row := some s) hb hy hb.size (fun j hj => by injection hj with hj; omega)
set_option maxRecDepth 100000 in
set_option maxHeartbeats 1000000 in
theorem drawBadugiValue_any (a : Option Addr) (L c : Nat) (zs : Nat → Int) (w : World) (hL : L ≤ 4096) (hc : CodeIn w a L zs) :
    Calls Try.prog 11 #[.slice a L c] w (DrawnR0 4 w) := by
  have K := Lib.hid (from_any a L c zs w hL hc)
  clear hc
  go_enter Try.func11, Try.ntmps11
  go_wp2_with (go_at_call 44; refine K.out.mono ?_; rintro e w1 ⟨rfl, hs1, hb1⟩; have S1 := Lib.hid hs1; have B1 := Lib.hid hb1; clear hs1 hb1)
  go_wp2_with (go_at_call 43; refine (drawFour_any _ _ _ _ _ _ S1.out).mono ?_; rintro e w2 ⟨xs, A, cc, rfl, hN, hcap, hr, hA, hs2, hy⟩; have R2 := Lib.hid hr; have Y2 := Lib.hid hy; clear hr hy hs2 hA)
  go_ret
  exact ⟨xs, A, cc, rfl, hN, hcap, R2.out, below_srcN B1.out (Nat.le_refl _) Y2.out⟩
set_option maxRecDepth 100000 in
set_option maxHeartbeats 1000000 in
theorem drawLowRanks_any (a : Option Addr) (L c : Nat) (zs : Nat → Int) (w : World) (hL : L ≤ 4096) (hc : CodeIn w a L zs) :
    Calls Try.prog 16 #[.slice a L c] w (DrawnR0 53 w) := by
  have K := Lib.hid (from_any a L c zs w hL hc)
  clear hc
  go_enter Try.func16, Try.ntmps16
  go_wp2_with (first
    | (go_at_call 44; refine K.out.mono ?_; rintro e w1 ⟨rfl, hs1, hb1⟩; have S1 := Lib.hid hs1; have B1 := Lib.hid hb1; clear hs1 hb1)
    | (go_at_call 53; ((with_reducible refine (next_any w.heap.size 16 a L c zs _ (by decide) (by decide) S1.out).mono ?_); rintro e w2 ⟨V, rfl, v0, v1, hs2, ho2⟩; have S2 := Lib.hid hs2; have Y2 := Lib.hid ho2; clear hs2 ho2)))
  · go_wp2_with (first
      | (go_at_call 53; ((with_reducible refine (next_any w.heap.size 2 a L c zs _ (by decide) (by decide) S2.out).mono ?_); rintro e w3 ⟨X, rfl, x0, x1, hs3, ho3⟩; have S3 := Lib.hid hs3; have Y3 := Lib.hid (only_trans Y2.out ho3); clear hs3 ho3))
      | (go_at_call 54; refine (deal_nil w.heap.size (8 + X) a L c zs _ (by omega) (by omega) S3.out).mono ?_; rintro e w4 ⟨xs, A, cc, rfl, hl, ho, hs4, hy4⟩; have O4 := Lib.hid ho; have Y4 := Lib.hid (only_trans Y3.out hy4); have L4 := Lib.hid hl; clear ho hs4 hy4 hl))
    go_ret
    exact ⟨xs, A, cc, rfl, Nat.le_trans L4.out (by omega), own_cap O4.out, O4.out.rd, below_srcN B1.out (Nat.le_refl _) Y4.out⟩
  · go_wp2_with (go_at_call 55; refine (drawList_any w.heap.size 7 a L c zs _ (by omega) (by omega) S2.out).mono ?_; rintro e w4 ⟨xs, A, cc, rfl, hl, ho, hs4, hy4⟩; have O4 := Lib.hid ho; have Y4 := Lib.hid (only_trans Y2.out hy4); have L4 := Lib.hid hl; clear ho hs4 hy4 hl)
    go_ret
    exact ⟨xs, A, cc, rfl, L4.out, own_cap O4.out, O4.out.rd, below_srcN B1.out (Nat.le_refl _) Y4.out⟩
end Go.Proofs.Ytajkgnheijhbpaa
