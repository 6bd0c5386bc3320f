/-
  The program's SuitOrbit.
-/
import Derived.Test.YtilbkgnjgmlhjaaDoorSuitExs
import Derived.Test.YtilbkgnjgmlhjaaDoorSetMap
import Derived.Test.YtilbkgnjgmlhjaaDoorBase
namespace Go.Proofs.YtilbkgnjgmlhjaaDoor
open Go.RowKit
open Go.Maps (Keyed)
set_option linter.unusedVariables false

/-- An exchange by its number, what a list becomes by it, how many sets there are. -/
def xch (k : Nat) : List Int := (exN 256).getD k []
def orbF (xs : List Int) (k : Nat) : Int := (maskOf (img (xch k) (sortA xs)) : Nat)
def orbC (xs : List Int) : Int := if cardsB xs = true then (distN (orbF xs) 24 : Nat) else 0
theorem xch_is {k : Nat} (h : k < 24) : IsX (xch k) := by
  have hl : k < (exN 256).length := by rw [exN_len]; exact h
  refine isX_mem (n := 256) (Nat.le_refl _) ?_
  unfold xch
  rw [List.getD_eq_getElem?_getD, List.getElem?_eq_getElem hl]
  exact List.getElem_mem hl
theorem cards_sort {xs : List Int} (h : cardsB xs = true) : cardsB (sortA xs) = true := by
  obtain ⟨p, _⟩ := sortA_facts xs
  obtain ⟨c1, c2⟩ := (cards_iff xs).1 h
  exact (cards_iff _).2 ⟨fun x hx => c1 x (p.mem_iff.1 hx), p.nodup_iff.2 c2⟩
theorem bitsI_mask {xs : List Int} (h : cardsB xs = true) : bitsI (maskOf xs) = sortA xs := order_mask h
theorem orbF_wf {xs : List Int} (h : cardsB xs = true) (k : Nat) (hk : k < 24) : 0 ≤ orbF xs k ∧ orbF xs k < 4503599627370496 := by
  have := mask_lt _ (img_cards (xch_is hk) (cards_sort h))
  unfold orbF; omega
theorem cells4_at : ∀ (l : List (List Int)), (∀ e ∈ l, e.length = 4) → ∀ k i, k < l.length → i < 4 → (cells4 l)[4 * k + i]? = some (.int .i64 (nth (l.getD k []) i))
  | [], _, k, i, hk, hi => by simp at hk
  | e :: l, h, 0, i, hk, hi => by
    have he := h e (by simp)
    have : (cells4 (e :: l))[4 * 0 + i]? = (ints e ++ cells4 l)[i]? := by simp [cells4]
    rw [this, List.getElem?_append_left (by rw [ints_length, he]; exact hi), ints_get e i (by omega)]
    rfl
  | e :: l, h, k + 1, i, hk, hi => by
    have he := h e (by simp)
    have hc : cells4 (e :: l) = ints e ++ cells4 l := by simp [cells4]
    rw [hc, List.getElem?_append_right (by rw [ints_length, he]; omega), ints_length, he, show 4 * (k + 1) + i - 4 = 4 * k + i by omega]
    exact cells4_at l (fun x hx => h x (by simp [hx])) k i (by simp at hk; omega) hi
/-- The exchanges as the program has them in memory. -/
structure Xs (w : World) (g : Nat) : Prop where
  ex : ∃ cur : Array Value, w.heap[g]? = some (.cells cur 100 (0, 0)) ∧ cur.toList.take 96 = cells4 (exN 256)
theorem Xs.cell {w : World} {g : Nat} (h : Xs w g) (k : Nat) (hk : k < 24) (i : Nat) (hi : i < 4) : w.cell? ⟨g, k * 4 + i, none⟩ = some (.int .i64 (nth (xch k) i)) := by
  obtain ⟨cur, h1, h2⟩ := h.ex
  rw [cell_of_row w g _ _ _ _ h1]
  have h3 := cells4_at (exN 256) (fun e he => (isX_mem (n := 256) (Nat.le_refl _) he).1) k i (by rw [exN_len]; exact hk) hi
  rw [← h2, List.getElem?_take, if_pos (by omega), Nat.mul_comm 4 k] at h3
  simpa [xch] using h3
theorem Xs.grown {w w' : World} {g B : Nat} (h : Xs w g) (hg : w.grownBy w' (some B)) (hne : g ≠ B) : Xs w' g := by
  obtain ⟨cur, h1, h2⟩ := h.ex
  exact ⟨cur, (hg.block g (Array.getElem?_eq_some_iff.1 h1).1 (by simp; exact hne)).trans h1, h2⟩
theorem Xs.below {w w' : World} {g : Nat} (h : Xs w g) (hb : Below w.heap.size w w') : Xs w' g := by
  obtain ⟨cur, h1, h2⟩ := h.ex
  exact ⟨cur, (hb.block g (Array.getElem?_eq_some_iff.1 h1).1).trans h1, h2⟩
theorem xs_of {w : World} {b : Nat} {v : Value} (h : OwnX w b v (exN 256)) : ∃ g cap, v = .slice (some ⟨g, 0, none⟩) 24 cap ∧ b ≤ g ∧ Xs w g := by
  obtain ⟨g, cap, cur, h1, h2, h3, h4, h5, h6⟩ := ownX_form h (by rw [exN_len]; omega)
  rw [exN_len] at h1 h6
  exact ⟨g, cap, h1, h2, ⟨cur, h3, h6⟩⟩
/-- What the loop over the exchanges keeps: the map in block B, the exchanges in block g. -/
structure Orb (w0 : World) (B g : Nat) (f : Nat → Int) (k : Nat) (wr : World) : Prop where
  map : SetM Tryd.prog 76 .u64 wr B k f
  xs : Xs wr g
  below : Below w0.heap.size w0 wr
theorem Orb.next {w0 wr w' : World} {B g k : Nat} {f : Nat → Int} (h : Orb w0 B g f k wr) (hb : Below wr.heap.size wr w') : Orb w0 B g f k w' := ⟨h.map.below hb, h.xs.below hb, bl_trans h.below hb⟩
theorem lawSet : Keyed Tryd.prog 76 := Go.Maps.int_keyed Tryd.underlying76

end Go.Proofs.YtilbkgnjgmlhjaaDoor
