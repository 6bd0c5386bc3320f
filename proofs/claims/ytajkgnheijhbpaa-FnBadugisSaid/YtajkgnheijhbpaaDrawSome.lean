/-
  Lists that the laws of chapters 4 and 5 draw: five cards, rarely another list; five to eight cards, rarely another list.
-/
import Derived.Test.YtajkgnheijhbpaaDrawFive
namespace Go.Proofs.Ytajkgnheijhbpaa
open Go.RowKit
set_option linter.unusedVariables false

/-- A drawn list of at most N numbers. -/
def SomeD (N : Nat) (w : World) (s : Nat) (a : Option Addr) (L c : Nat) (zs : Nat → Int) (e : Ending) (w' : World) : Prop :=
  ∃ (xs : List Int) (A : Option Addr) (cc : Nat), e = .returned (.slice A xs.length cc) ∧ 4 ≤ xs.length ∧ xs.length ≤ N ∧ xs.length ≤ cc ∧ Rd w' A xs ∧ (∀ b, A = some b → w.heap.size ≤ b.block) ∧ Src w' s a L c zs ∧ Only s w w'
theorem own_set {w : World} {lo g c : Nat} {xs : List Int} (h : Own w lo (.slice (some ⟨g, 0, none⟩) xs.length c) xs) (i : Nat) (x : Int) :
    Own (w.setCell ⟨g, i, none⟩ (.int .i64 x)) lo (.slice (some ⟨g, 0, none⟩) (xs.set i x).length c) (xs.set i x) ∧ w.grownBy (w.setCell ⟨g, i, none⟩ (.int .i64 x)) (some g) := by
  unfold Own at h ⊢
  have h2 := h.stored i (.int .i64 x)
  rw [ints_set] at h2
  rw [List.length_set]
  exact h2
theorem rd_onlyM {w w' : World} {s lo : Nat} {A : Option Addr} {xs : List Int} (h : Rd w A xs) (ho : Only s w w') (hs : s < lo) (hA : ∀ b, A = some b → lo ≤ b.block) : Rd w' A xs :=
  Rd.grown (row := some s) h ho (fun a e e' => by have := hA a e; injection e' with e'; omega)
theorem pick3_row (w : World) (s : Nat) (x : Int) (a : Option Addr) (L c : Nat) (zs : Nat → Int) (h : Src w s a L c zs) (x0 : 0 ≤ x) (x1 : x < 52) :
    Calls Try.prog 91 #[.pointer (some ⟨s, 0, none⟩), .slice (some ⟨w.heap.size, 0, none⟩) 3 3] (w.alloc (.cells #[.int .i64 (-1), .int .i64 x, .int .i64 52] 2)) (Drew (-1) 52 (w.alloc (.cells #[.int .i64 (-1), .int .i64 x, .int .i64 52] 2)) s a L c zs) := by
  have hs := src_lt h
  refine pick_any s w.heap.size 3 (rowOf [-1, x, 52]) (-1) 52 a L c zs _ (by omega) (by omega) (fun i hi => row_new [-1, x, 52] 2 w i hi) (fun i hi => ?_) (by omega) (src_alloc h _)
  match i, hi with
  | 0, _ => exact ⟨by show (-1 : Int) ≤ -1; omega, by show (-1 : Int) ≤ 52; omega⟩
  | 1, _ => exact ⟨by show (-1 : Int) ≤ x; omega, by show x ≤ 52; omega⟩
  | 2, _ => exact ⟨by show (-1 : Int) ≤ 52; omega, by show (52 : Int) ≤ 52; omega⟩
theorem more_cards {xs five ys rs : List Int} (hb : cardsB five = true) (hp : (ys ++ rs).Perm (othersN 52 five)) (hx : xs.Perm (five ++ ys)) : ∀ x ∈ xs, 0 ≤ x ∧ x < 52 := fun x hm => by
  rcases List.mem_append.1 (hx.mem_iff.1 hm) with h | h
  · exact ((cards_iff five).1 hb).1 x h
  · exact ((others_facts five).2.1 x (hp.mem_iff.1 (List.mem_append.2 (.inl h)))).1
end Go.Proofs.Ytajkgnheijhbpaa
