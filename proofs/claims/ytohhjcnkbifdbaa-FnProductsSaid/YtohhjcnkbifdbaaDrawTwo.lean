/-
  DrawAddRatios and its like: two drawn ratios.
-/
import Derived.Test.YtohhjcnkbifdbaaDrawRatio
import Derived.Deep.RegionWith
namespace Go.Proofs.Ytohhjcnkbifdbaa
open Go.RowKit
set_option linter.unusedVariables false

def small (n : Int) : Prop := -1000000001 ≤ n ∧ n ≤ 1000000001
/-- Two drawn ratios, in new memory. -/
def TwoR (w : World) (e : Ending) (w' : World) : Prop :=
  ∃ n d m k : Int, e = .returned (.tuple #[.agg #[.int .i64 n, .int .i64 d], .agg #[.int .i64 m, .int .i64 k]]) ∧ small n ∧ small d ∧ small m ∧ small k ∧ Below w.heap.size w w'
theorem codeIn_below {w w' : World} {a : Option Addr} {L : Nat} {zs : Nat → Int} (h : CodeIn w a L zs) (hb : Below w.heap.size w w') : CodeIn w' a L zs := by
  rcases h with h | ⟨b, off, e, h⟩
  · exact .inl h
  · exact .inr ⟨b, off, e, codeAt_below h hb⟩
theorem src_drew {w : World} {s : Nat} {a : Option Addr} {L c : Nat} {zs : Nat → Int} (h : Src w s a L c zs) : Src w.drew s a L c zs := h.below (bl_drew (bl_refl _))
theorem rAt_drew {w : World} {r : Nat} (h : RAt w r) : RAt w.drew r := rAt_below h (bl_drew (bl_refl _))
theorem rAt_lt {w : World} {r : Nat} (h : RAt w r) : r < w.heap.size := World.block_lt_of_cell? w _ h.1

/-- A source that the call made, and two results' cells ahead of it. -/
def FromK (r q s : Nat) (w0 : World) (a : Option Addr) (L c : Nat) (zs : Nat → Int) (e : Ending) (w' : World) : Prop :=
  e = .returned (.pointer (some ⟨s, 0, none⟩)) ∧ Src w' s a L c zs ∧ Below w0.heap.size w0 w' ∧ RAt w' r ∧ RAt w' q ∧ r < s ∧ q < s
theorem from_two (a : Option Addr) (L c : Nat) (zs : Nat → Int) (w : World) (hL : L ≤ 4096) (hc : CodeIn w a L zs) (t : TypeId) (ht : t = 25) :
    Calls Try.prog 36 #[.slice a L c] ((w.alloc (.cells #[.int .i64 0, .int .i64 0] t)).alloc (.cells #[.int .i64 0, .int .i64 0] t))
      (FromK w.heap.size (w.heap.size + 1) (w.heap.size + 1 + 1) w a L c zs) := by
  have hb : Below w.heap.size w ((w.alloc (.cells #[.int .i64 0, .int .i64 0] t)).alloc (.cells #[.int .i64 0, .int .i64 0] t)) := bl_alloc (bl_alloc (bl_refl _) _) _
  have r1 : RAt ((w.alloc (.cells #[.int .i64 0, .int .i64 0] t)).alloc (.cells #[.int .i64 0, .int .i64 0] t)) w.heap.size := rAt_alloc (rAt_new w t) _
  have r2 : RAt ((w.alloc (.cells #[.int .i64 0, .int .i64 0] t)).alloc (.cells #[.int .i64 0, .int .i64 0] t)) (w.heap.size + 1) := by
    have := rAt_new (w.alloc (.cells #[.int .i64 0, .int .i64 0] t)) t
    simpa using this
  refine (from_any a L c zs _ hL (codeIn_below hc hb)).mono fun e w1 hh => ?_
  obtain ⟨he, hs, hb1⟩ := hh
  have e1 : ((w.alloc (.cells #[.int .i64 0, .int .i64 0] t)).alloc (.cells #[.int .i64 0, .int .i64 0] t)).heap.size = w.heap.size + 1 + 1 := by simp
  rw [e1] at he hs
  exact ⟨he, hs, bl_trans hb hb1, rAt_below r1 hb1, rAt_below r2 hb1, by omega, by omega⟩

/-- A ratio drawn, where two results' cells are kept. -/
def DrewRK (r q : Nat) (w : World) (s : Nat) (a : Option Addr) (L c : Nat) (zs : Nat → Int) (e : Ending) (w' : World) : Prop :=
  ∃ n d : Int, e = .returned (.agg #[.int .i64 n, .int .i64 d]) ∧ small n ∧ small d ∧ Src w' s a L c zs ∧ Only s w w' ∧ w.heap.size ≤ w'.heap.size ∧ RAt w' r ∧ RAt w' q
theorem drewRK (r q : Nat) (s : Nat) (a : Option Addr) (L c : Nat) (zs : Nat → Int) (w : World) (h : Src w s a L c zs) (hr : RAt w r) (hq : RAt w q) (h1 : r < s) (h2 : q < s) :
    Calls Try.prog 37 #[.pointer (some ⟨s, 0, none⟩)] w (DrewRK r q w s a L c zs) := by
  refine (drawRatio_any s a L c zs w h).mono fun e w1 hh => ?_
  obtain ⟨n, d, he, n0, n1, d0, d1, hs, ho, hz⟩ := hh
  exact ⟨n, d, he, ⟨n0, n1⟩, ⟨d0, d1⟩, hs, ho, hz, rAt_only hr ho (by omega), rAt_only hq ho (by omega)⟩

set_option maxHeartbeats 200000 in
theorem drawAdd_any (a : Option Addr) (L c : Nat) (zs : Nat → Int) (w : World) (hL : L ≤ 4096) (hc : CodeIn w a L zs) :
    Calls Try.prog 14 #[.slice a L c] w (TwoR w) := by
  have HC := Lib.hid hc
  clear hc
  go_enter Try.func14, Try.ntmps14
  go_wp2_with (go_at_call 36; refine (from_two a L c zs w hL HC.out _ rfl).mono ?_; rintro e w1 ⟨rfl, hs1, hb1, r1, q1, lr, lq⟩)
  go_wp2_with (go_at_call 37; ((with_reducible refine (drewRK _ _ _ _ _ _ _ _ hs1 r1 q1 lr lq).mono ?_); rintro e w2 ⟨n, d, rfl, bn, bd, hs2, ho2, hz2, r2, q2⟩))
  have hs3 := fun o => src_drew (src_alloc hs2 o)
  have r3 := fun o => rAt_drew (rAt_alloc r2 o)
  have q3 := fun o => rAt_drew (rAt_alloc q2 o)
  have ne2 : w2.heap.size ≠ w.heap.size + 1 + 1 := Nat.ne_of_gt (src_lt hs2)
  have n1 : w.heap.size ≠ w2.heap.size := Nat.ne_of_lt (rAt_lt r2)
  have n2 : w.heap.size + 1 ≠ w2.heap.size := Nat.ne_of_lt (rAt_lt q2)
  go_region_with ((go_at_call 37; ((with_reducible refine (drewRK _ _ _ _ _ _ _ _ (hs3 _) (r3 _) (q3 _) lr lq).mono ?_); rintro e w4 ⟨m, k, rfl, bm, bk, hs4, ho4, hz4, r4, q4⟩; have t0 := only_cell (b := w2.heap.size) (o := 0) ho4 (lt_alloc _ _) ne2; have t1 := only_cell (b := w2.heap.size) (o := 1) ho4 (lt_alloc _ _) ne2; obtain ⟨a0, a1, a2, a3⟩ := r4; obtain ⟨b0, b1, b2, b3⟩ := q4)))
  all_goals
    go_wp2_with fail
    have B2 : Below w.heap.size w w2 := hb1.trans (below_only (by omega) (Nat.le_trans hb1.size (Nat.le_refl _)) ho2)
    have B3 : Below w.heap.size w (w2.alloc (.cells #[.int .i64 n, .int .i64 d] 25)).drew := bl_drew (bl_alloc B2 _)
    have B4 : Below w.heap.size w w4 := B3.trans (below_only (by omega) B3.size ho4)
    exact bodyPost_ret (v := .tuple #[.agg #[.int .i64 n, .int .i64 d], .agg #[.int .i64 m, .int .i64 k]]) (by simp [results, Try.results14, go_sem, a0, a1, b0, b1]) rfl
      ⟨n, d, m, k, rfl, bn, bd, bm, bk, bl_set (bl_set (bl_set (bl_set B4 (Nat.le_refl _) _) (Nat.le_refl _) _) (Nat.le_succ _) _) (Nat.le_succ _) _⟩

end Go.Proofs.Ytohhjcnkbifdbaa
