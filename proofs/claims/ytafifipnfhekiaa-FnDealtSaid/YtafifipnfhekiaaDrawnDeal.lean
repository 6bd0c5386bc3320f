/-
  What the law FnDealt draws from its code: a deck, rarely another list, with numbers beside it.
-/
import Derived.Test.YtafifipnfhekiaaDrawnCut
import Derived.Test.YtafifipnfhekiaaDrawCard
namespace Go.Proofs.Ytafifipnfhekiaa
open Go.RowKit
set_option linter.unusedVariables false

/-- .. with two numbers beside it. -/
def DrawnRII (w : World) (e : Ending) (w' : World) : Prop :=
  ∃ (xs : List Int) (A : Option Addr) (cc : Nat) (n m : Int), e = .returned (.tuple #[.slice A xs.length cc, .int .i64 n, .int .i64 m]) ∧ xs.length ≤ 53 ∧ xs.length ≤ cc ∧ Rd w' A xs ∧ Below w.heap.size w w'
theorem sizes_row (w : World) (s : Nat) (a : Option Addr) (L c : Nat) (zs : Nat → Int) (h : Src w s a L c zs) :
    Calls Try.prog 52 #[.pointer (some ⟨s, 0, none⟩), .slice (some ⟨w.heap.size, 0, none⟩) 12 12] (w.alloc (.cells #[.int .i64 0, .int .i64 1, .int .i64 2, .int .i64 2, .int .i64 4, .int .i64 5, .int .i64 7, .int .i64 13, .int .i64 26, .int .i64 52, .int .i64 53, .int .i64 (-1)] 2)) (Drew (-1) 53 (w.alloc (.cells #[.int .i64 0, .int .i64 1, .int .i64 2, .int .i64 2, .int .i64 4, .int .i64 5, .int .i64 7, .int .i64 13, .int .i64 26, .int .i64 52, .int .i64 53, .int .i64 (-1)] 2)) s a L c zs) := by
  have hs := src_lt h
  refine pick_any s w.heap.size 12 (rowOf [0, 1, 2, 2, 4, 5, 7, 13, 26, 52, 53, -1]) (-1) 53 a L c zs _ (by omega) (by omega) (fun i hi => row_new [0, 1, 2, 2, 4, 5, 7, 13, 26, 52, 53, -1] 2 w i hi) (fun i hi => ?_) (by omega) (src_alloc h _)
  have hall : ∀ j : Fin 12, -1 ≤ rowOf [0, 1, 2, 2, 4, 5, 7, 13, 26, 52, 53, -1] j.val ∧ rowOf [0, 1, 2, 2, 4, 5, 7, 13, 26, 52, 53, -1] j.val ≤ 53 := by decide
  exact hall ⟨i, hi⟩

set_option maxRecDepth 100000 in
set_option maxHeartbeats 1000000 in
theorem drawDealHands_any (a : Option Addr) (L c : Nat) (zs : Nat → Int) (w : World) (hL : L ≤ 4096) (hc : CodeIn w a L zs) :
    Calls Try.prog 22 #[.slice a L c] w (DrawnRII w) := by
  have K := Lib.hid (from_any a L c zs w hL hc)
  clear hc
  go_enter Try.func22, Try.ntmps22
  go_wp2_with (go_at_call 45; refine K.out.mono ?_; rintro e w1 ⟨rfl, hs1, hb1⟩; have S1 := Lib.hid hs1; have B1 := Lib.hid hb1; clear hs1 hb1)
  go_wp2_with (go_at_call 44; refine (drawDeck_any _ _ _ _ _ _ S1.out).mono ?_; rintro e w2 ⟨xs, A, cc, rfl, hl, hcap, hr, hA, hs2, hy⟩; have S2 := Lib.hid hs2; have R2 := Lib.hid hr; have Y2 := Lib.hid hy; have HA := Lib.hid hA; clear hs2 hr hy hA)
  go_wp2_with (go_at_call 51; refine (next_any _ 12 _ _ _ _ _ (by omega) (by omega) S2.out).mono ?_; rintro e w3 ⟨x, rfl, x0, x1, hs3, ho3⟩; have S3 := Lib.hid hs3; have Y3 := Lib.hid ho3; clear hs3 ho3)
  go_wp2_with (go_at_call 52; refine (sizes_row _ _ _ _ _ _ S3.out).mono ?_; rintro e w4 ⟨y, rfl, y0, y1, hs4, ho4⟩; have Y4 := Lib.hid ho4; clear hs4 ho4)
  go_ret3
  have hs1 := src_lt S1.out
  have r3 := rd_only R2.out Y3.out hs1 HA.out
  have r3' := r3.below (bl_alloc (bl_refl w3) (.cells #[.int .i64 0, .int .i64 1, .int .i64 2, .int .i64 2, .int .i64 4, .int .i64 5, .int .i64 7, .int .i64 13, .int .i64 26, .int .i64 52, .int .i64 53, .int .i64 (-1)] 2))
  have r4 := rd_only r3' Y4.out hs1 HA.out
  exact ⟨xs, A, cc, x, y, rfl, hl, hcap, r4, below_src B1.out (Nat.le_refl _) (only_trans (only_alloc (only_trans Y2.out Y3.out) _) Y4.out)⟩

set_option maxRecDepth 100000 in
set_option maxHeartbeats 1000000 in
theorem drawPlaceOf_any (a : Option Addr) (L c : Nat) (zs : Nat → Int) (w : World) (hL : L ≤ 4096) (hc : CodeIn w a L zs) :
    Calls Try.prog 25 #[.slice a L c] w (DrawnRI w) := by
  have K := Lib.hid (from_any a L c zs w hL hc)
  clear hc
  go_enter Try.func25, Try.ntmps25
  go_wp2_with (go_at_call 45; refine K.out.mono ?_; rintro e w1 ⟨rfl, hs1, hb1⟩; have S1 := Lib.hid hs1; have B1 := Lib.hid hb1; clear hs1 hb1)
  go_wp2_with (go_at_call 44; refine (drawDeck_any _ _ _ _ _ _ S1.out).mono ?_; rintro e w2 ⟨xs, A, cc, rfl, hl, hcap, hr, hA, hs2, hy⟩; have S2 := Lib.hid hs2; have R2 := Lib.hid hr; have Y2 := Lib.hid hy; have HA := Lib.hid hA; clear hs2 hr hy hA)
  go_wp2_with (go_at_call 54; refine (drawCard_any _ _ _ _ _ _ S2.out).mono ?_; rintro e w3 ⟨x, rfl, x0, x1, hs3, ho3⟩; have Y3 := Lib.hid ho3; clear hs3 ho3)
  go_ret2
  exact ⟨xs, A, cc, x, rfl, hl, hcap, rd_only R2.out Y3.out (src_lt S1.out) HA.out, below_src B1.out (Nat.le_refl _) (only_trans Y2.out Y3.out)⟩

set_option maxRecDepth 100000 in
set_option maxHeartbeats 1000000 in
theorem drawRestOfDeck_any (a : Option Addr) (L c : Nat) (zs : Nat → Int) (w : World) (hL : L ≤ 4096) (hc : CodeIn w a L zs) :
    Calls Try.prog 28 #[.slice a L c] w (DrawnRI w) := by
  have K := Lib.hid (drawCutDeck_any a L c zs w hL hc)
  clear hc
  go_enter Try.func28, Try.ntmps28
  go_wp2_with (go_at_call 58; refine K.out.mono ?_; rintro e w1 ⟨xs, A, cc, n, rfl, hl, hcap, hr, hb⟩; have HR := Lib.hid hr; have HB := Lib.hid hb; clear hr hb)
  go_ret2
  exact ⟨xs, A, cc, n, rfl, hl, hcap, HR.out, HB.out⟩
end Go.Proofs.Ytafifipnfhekiaa
