/-
  cardDeck.rearranged at the three functions of places.
-/
import Derived.Test.YtafifipnfhekiaaArr
namespace Go.Proofs.Ytafifipnfhekiaa
open Go.RowKit
set_option linter.unusedVariables false

/-- What a function leaves that returns an array. -/
def ArrOf (ys : List Int) (w : World) (e : Ending) (w' : World) : Prop := e = .returned (arrV ys) ∧ Below w.heap.size w w'
theorem heap3_new (w : World) (A B C : Obj) : (((w.alloc A).alloc B).alloc C).heap[w.heap.size + 1 + 1]? = some C := by
  have h := heap_alloc_new ((w.alloc A).alloc B) C
  simpa using h
/-- What the rearranging loop keeps: the deck that is written, the old one, the block of the result. -/
structure Rearr (w : World) (f : Nat → Nat) (xs : List Int) (k : Nat) (wr : World) : Prop where
  new : Arr wr w.heap.size (permN f k xs ++ xs.drop k)
  old : Arr wr (w.heap.size + 1 + 1) xs
  out : ∃ old, wr.heap[w.heap.size + 1]? = some (.cells old 52 (0, 0)) ∧ old.size = 52
  below : Below w.heap.size w wr
theorem rearr_start {w w1 : World} {f : Nat → Nat} {xs : List Int} {z : Array Value} (hz : z.size = 52)
    (ha : Arr w1 (w.heap.size + 1 + 1) xs) (hg : (((w.alloc (.cells (ints xs).toArray 52)).alloc (.cells z 52)).alloc (.cells z 52)).grownBy w1 (some (w.heap.size + 1 + 1))) : Rearr w f xs 0 w1 := by
  have h0 := (arr_new w xs).below (bl_alloc (bl_refl _) (.cells z 52))
  have h1 := h0.below (bl_alloc (bl_refl _) (.cells z 52))
  refine ⟨?_, ha, ⟨z, ?_, hz⟩, ?_⟩
  · have := h1.grown hg (by intro e; injection e; omega)
    simpa [permN] using this
  · have e1 : (((w.alloc (.cells (ints xs).toArray 52)).alloc (.cells z 52)).alloc (.cells z 52)).heap[w.heap.size + 1]? = some (.cells z 52 (0, 0)) := by
      rw [Below.heap_alloc _ _ _ (by simp)]
      have := heap_alloc_new (w.alloc (.cells (ints xs).toArray 52)) (.cells z 52)
      simpa using this
    exact (hg.block _ (by simp) (by intro e; injection e; omega)).trans e1
  · exact (bl_alloc (bl_alloc (bl_alloc (bl_refl w) _) _) _).grown hg (by simp; omega) (fun j hj => by injection hj; omega)
theorem permN_set (f : Nat → Nat) (xs : List Int) (k : Nat) (hk : k < xs.length) : (permN f k xs ++ xs.drop k).set k (ix xs (f k)) = permN f (k + 1) xs ++ xs.drop (k + 1) := by
  rw [List.set_append_right _ _ (by rw [permN_length]; exact Nat.le_refl _), permN_length, Nat.sub_self, permN_snoc, List.append_assoc, List.drop_eq_getElem_cons hk]
  rfl
theorem rearr_step {w wr : World} {f : Nat → Nat} {xs : List Int} {k : Nat} (h : Rearr w f xs k wr) (hk : k < 52) {y : Int} (e : y = nth xs (f k)) (hl : xs.length = 52) :
    Rearr w f xs (k + 1) (wr.setCell ⟨w.heap.size, k, none⟩ (.int .i64 y)) := by
  obtain ⟨h1, h2⟩ := arr_set h.new k y (by rw [List.length_append, permN_length, List.length_drop]; omega)
  subst e
  rw [show nth xs (f k) = ix xs (f k) from rfl, permN_set f xs k (by omega)] at h1
  obtain ⟨old, ho, hs⟩ := h.out
  exact ⟨h1, h.old.grown h2 (by intro e; injection e; omega), ⟨old, (h2.block _ (Array.getElem?_eq_some_iff.1 ho).1 (by intro e; injection e; omega)).trans ho, hs⟩, h.below.setCell (Nat.le_refl _) _⟩
theorem rearr_cell {w wr : World} {f : Nat → Nat} {xs : List Int} {k : Nat} (h : Rearr w f xs k wr) (hl : xs.length = 52) (hk : k < 52) :
    wr.cell? ⟨w.heap.size, k, none⟩ = some (.int .i64 (nth (permN f k xs ++ xs.drop k) k)) ∧ wr.frozen? ⟨w.heap.size, k, none⟩ = false :=
  h.new.cell k (by rw [List.length_append, permN_length, List.length_drop]; omega)
theorem rearr_end {w wr : World} {f : Nat → Nat} {xs : List Int} (h : Rearr w f xs 52 wr) (hl : xs.length = 52) :
    Arr wr w.heap.size (perm f xs) ∧ ∃ old, wr.heap[w.heap.size + 1]? = some (.cells old 52 (0, 0)) ∧ old.size = 52 := by
  refine ⟨?_, h.out⟩
  have := h.new
  rwa [List.drop_eq_nil_of_le (by omega), List.append_nil] at this
theorem rearr_below {w wr w2 : World} {f : Nat → Nat} {xs : List Int} {k : Nat} (h : Rearr w f xs k wr) (hg : wr.grownBy w2 (some (w.heap.size + 1))) : Below w.heap.size w w2 :=
  h.below.grown hg h.below.size (fun j hj => by injection hj; omega)
end Go.Proofs.Ytafifipnfhekiaa
