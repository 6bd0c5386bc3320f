/-
  l01Pick: what is drawn lies between bounds.
-/
import Derived.Test.YtcbfmfkahgfjkaaDoorDraw
import Derived.RegionTactic
import Derived.WalkSpells
namespace Go.Proofs.YtcbfmfkahgfjkaaDoor
open Go.RowKit
set_option linter.unusedVariables false

/-- A drawn index into a row of numbers. -/
def NextIdx (w : World) (s q N : Nat) (xs : Nat → Int) (a : Option Addr) (L c : Nat) (zs : Nat → Int) (e : Ending) (w' : World) : Prop :=
  ∃ i : Nat, e = .returned (.int .i64 i) ∧ i < N ∧ (i : Int) < N ∧ w'.cell? ⟨q, i, none⟩ = some (.int .i64 (xs i)) ∧ Src w' s a L c zs ∧ Only s w w'
theorem next_idx (s q N : Nat) (xs : Nat → Int) (a : Option Addr) (L c : Nat) (zs : Nat → Int) (w : World) (hN : 1 < N) (hN' : N ≤ 1000) (hq : ∀ i, i < N → w.cell? ⟨q, i, none⟩ = some (.int .i64 (xs i))) (hne : q ≠ s) (h : Src w s a L c zs) :
    Calls Tryd.prog 66 #[.pointer (some ⟨s, 0, none⟩), .int .i64 N] w (NextIdx w s q N xs a L c zs) := by
  refine (next_any s N a L c zs w (by omega) (by omega) h).mono fun e w1 hh => ?_
  obtain ⟨x, he, x0, x1, hs1, ho1⟩ := hh
  obtain ⟨i, rfl⟩ := Int.eq_ofNat_of_zero_le x0
  have hi' : i < N := by omega
  exact ⟨i, he, hi', by omega, (only_cell ho1 (World.block_lt_of_cell? w _ (hq i hi')) hne).trans (hq i hi'), hs1, ho1⟩

set_option maxHeartbeats 1000000 in
theorem pick_any (s q N : Nat) (xs : Nat → Int) (lo hi : Int) (a : Option Addr) (L c : Nat) (zs : Nat → Int) (w : World) (hN : 1 < N) (hN' : N ≤ 1000) (hq : ∀ i, i < N → w.cell? ⟨q, i, none⟩ = some (.int .i64 (xs i))) (hb : ∀ i, i < N → lo ≤ xs i ∧ xs i ≤ hi) (hne : q ≠ s) (h : Src w s a L c zs) :
    Calls Tryd.prog 69 #[.pointer (some ⟨s, 0, none⟩), .slice (some ⟨q, 0, none⟩) N N] w (Drew lo hi w s a L c zs) := by
  have K := Lib.hid (next_idx s q N xs a L c zs w hN hN' hq hne h)
  have HB := Lib.hid hb
  clear hb hq h
  go_enter Tryd.func69, Tryd.ntmps69
  go_wp2_with (go_at_call 66; refine K.out.mono ?_; rintro e w1 ⟨i, rfl, i0, i1, hc, hs1, ho1⟩)
  go_ret
  exact ⟨xs i, rfl, (HB.out i i0).1, (HB.out i i0).2, hs1, ho1⟩

theorem drew_mono {lo hi lo' hi' : Int} {w : World} {s : Nat} {a : Option Addr} {L c : Nat} {zs : Nat → Int} {e : Ending} {w' : World} (h1 : lo' ≤ lo) (h2 : hi ≤ hi') (h : Drew lo hi w s a L c zs e w') : Drew lo' hi' w s a L c zs e w' := by
  obtain ⟨x, he, x0, x1, hs, ho⟩ := h
  exact ⟨x, he, by omega, by omega, hs, ho⟩

/-- The numbers of a row that a call builds. -/
def rowOf (l : List Int) (i : Nat) : Int := l.getD i 0
theorem row_new (l : List Int) (t : TypeId) (w : World) (i : Nat) (hi : i < l.length) : (w.alloc (.cells (l.map (Value.int .i64)).toArray t)).cell? ⟨w.heap.size, i, none⟩ = some (.int .i64 (rowOf l i)) := by
  have e : (w.alloc (.cells (l.map (Value.int .i64)).toArray t)).heap[w.heap.size]? = some (.cells (l.map (Value.int .i64)).toArray t) := (MapKept.heap_alloc w _).1
  simp only [World.cell?, e]
  simp [rowOf, hi]
theorem src_alloc {w : World} {s : Nat} {a : Option Addr} {L c : Nat} {zs : Nat → Int} (h : Src w s a L c zs) (o : Obj) : Src (w.alloc o) s a L c zs := h.below (bl_alloc (bl_refl _) _)
theorem src_lt {w : World} {s : Nat} {a : Option Addr} {L c : Nat} {zs : Nat → Int} (h : Src w s a L c zs) : s < w.heap.size := by
  obtain ⟨k, sd, h1, _⟩ := h.at'
  exact srcAt_lt h1
theorem drew_after {lo hi lo' hi' : Int} {w w1 : World} {s : Nat} {a : Option Addr} {L c : Nat} {zs : Nat → Int} {e : Ending} {w' : World} (h0 : Only s w w1) (h1 : lo' ≤ lo) (h2 : hi ≤ hi') (h : Drew lo hi w1 s a L c zs e w') : Drew lo' hi' w s a L c zs e w' := by
  obtain ⟨x, he, x0, x1, hs, ho⟩ := h
  exact ⟨x, he, by omega, by omega, hs, only_trans h0 ho⟩

theorem next_pos (s : Nat) (n : Int) (a : Option Addr) (L c : Nat) (zs : Nat → Int) (w : World) (hn : 1 ≤ n) (hn' : n ≤ 4000000000000000000) (h : Src w s a L c zs) :
    Calls Tryd.prog 66 #[.pointer (some ⟨s, 0, none⟩), .int .i64 n] w (Drew 0 (n - 1) w s a L c zs) := by
  by_cases h1 : n ≤ 1
  · exact (next_small s n w h1).mono fun _ _ ⟨he, hw⟩ => ⟨0, he, by omega, by omega, hw ▸ h, hw ▸ only_refl _ _⟩
  · exact next_any s n a L c zs w (by omega) hn' h

end Go.Proofs.YtcbfmfkahgfjkaaDoor
