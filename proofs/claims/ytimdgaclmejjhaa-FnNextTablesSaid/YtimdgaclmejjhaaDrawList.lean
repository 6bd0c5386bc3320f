/-
  l02DrawList, l02DrawCard and what the laws draw with them.
-/
import Derived.Test.YtimdgaclmejjhaaDraws
namespace Go.Proofs.Ytimdgaclmejjhaa
open Go.RowKit
set_option linter.unusedVariables false

theorem drewL_mono {N M : Nat} {w : World} {s : Nat} {a : Option Addr} {L c : Nat} {zs : Nat → Int} {e : Ending} {w' : World} (h : DrewL N w s a L c zs e w') (hm : N ≤ M) : DrewL M w s a L c zs e w' := by
  obtain ⟨xs, A, cc, he, hl, rest⟩ := h
  exact ⟨xs, A, cc, he, Nat.le_trans hl hm, rest⟩
/-- What holds between the draws of a list. -/
structure Lists (w : World) (s : Nat) (a : Option Addr) (L c : Nat) (zs : Nat → Int) (xs : List Int) (v : Value) (wr : World) : Prop where
  own : Own wr w.heap.size v xs
  src : Src wr s a L c zs
  only : Only s w wr
theorem lists_next {w wr w1 : World} {s : Nat} {a : Option Addr} {L c : Nat} {zs : Nat → Int} {xs : List Int} {v : Value} (h : Lists w s a L c zs xs v wr) (hs : s < w.heap.size) (hsrc : Src w1 s a L c zs) (ho : Only s wr w1) : Lists w s a L c zs xs v w1 :=
  ⟨own_only h.own ho hs, hsrc, only_trans h.only ho⟩
theorem lists_alloc {w wr : World} {s : Nat} {a : Option Addr} {L c : Nat} {zs : Nat → Int} {xs : List Int} {v : Value} (h : Lists w s a L c zs xs v wr) (o : Obj) : Lists w s a L c zs xs v (wr.alloc o) :=
  ⟨h.own.below (bl_alloc (bl_refl _) _), src_alloc h.src o, only_alloc h.only o⟩
theorem lists_app {w w1 w2 : World} {s : Nat} {a : Option Addr} {L c : Nat} {zs : Nat → Int} {xs : List Int} {v v' : Value} {y : Int} {o : Obj} (h : Lists w s a L c zs xs v w1) (hs : s < w.heap.size) (hB : CodeB w.heap.size a L)
    (hown : w2.ownsRow w.heap.size 2 1 v' (xs.length + 1) (ints xs ++ [.int .i64 y])) (hgrow : (w1.alloc o).grownBy w2 v.ownBlock) : Lists w s a L c zs (xs ++ [y]) v' w2 := by
  have hr : ∀ j, v.ownBlock = some j → w.heap.size ≤ j := fun j hj => (World.ownsRow.lt h.own j hj).1
  exact ⟨own_app hown, src_grown (src_alloc h.src o) hgrow hr hs hB, only_grown (only_alloc h.only o) hgrow hr⟩
theorem bl_trans' {w w1 w2 : World} {s : Nat} (hb : Below w.heap.size w w1) (hs : w.heap.size ≤ s) (hy : Only s w1 w2) : Below w.heap.size w w2 := by
  refine Below.grown (row := some s) hb hy hb.size (fun j hj => ?_)
  injection hj with hj
  omega
theorem pair_row (w : World) (s : Nat) (a : Option Addr) (L c : Nat) (zs : Nat → Int) (h : Src w s a L c zs) :
    Calls Try.prog 16 #[.pointer (some ⟨s, 0, none⟩), .slice (some ⟨w.heap.size, 0, none⟩) 2 2] (w.alloc (.cells #[.int .i64 (-1), .int .i64 52] 2)) (Drew (-1) 52 (w.alloc (.cells #[.int .i64 (-1), .int .i64 52] 2)) s a L c zs) := by
  have hs := src_lt h
  refine pick_any s w.heap.size 2 (rowOf [-1, 52]) (-1) 52 a L c zs _ (by omega) (by omega) (fun i hi => row_new [-1, 52] 2 w i hi) (fun i hi => ?_) (by omega) (src_alloc h _)
  match i, hi with
  | 0, _ => exact ⟨by decide, by decide⟩
  | 1, _ => exact ⟨by decide, by decide⟩
/-- A list that a law draws from its code. -/
def DrawnL (N : Nat) (w : World) (e : Ending) (w' : World) : Prop :=
  ∃ (xs : List Int) (A : Option Addr) (cc : Nat), e = .returned (.slice A xs.length cc) ∧ xs.length ≤ N ∧ Own w' w.heap.size (.slice A xs.length cc) xs ∧ Below w.heap.size w w'
theorem drawnL_of {N : Nat} {w w1 w2 : World} {s : Nat} {a : Option Addr} {L c : Nat} {zs : Nat → Int} {e : Ending} (hb : Below w.heap.size w w1) (hs : w.heap.size ≤ s) (h : DrewL N w1 s a L c zs e w2) : DrawnL N w e w2 := by
  obtain ⟨xs, A, cc, he, hl, ho, _, hy⟩ := h
  exact ⟨xs, A, cc, he, hl, ho.less hb.size, bl_trans' hb hs hy⟩

end Go.Proofs.Ytimdgaclmejjhaa
