/-
  Which of many lists is the least.
-/
import Derived.Test.YtilbkgnjgmlhjaaDoorImages
import Derived.Test.YtilbkgnjgmlhjaaDoorCmpLists
import Derived.Test.YtilbkgnjgmlhjaaDoorCmpNum
namespace Go.Proofs.YtilbkgnjgmlhjaaDoor
open Go.RowKit
set_option linter.unusedVariables false

/-- Which of the first n + 1 lists is the least (the first one of such). -/
def leastK (F : Nat → List Int) : Nat → Nat
  | 0 => 0
  | n + 1 => if lexLt (F (n + 1)) (F (leastK F n)) = true then n + 1 else leastK F n
theorem leastK_le (F : Nat → List Int) : ∀ n, leastK F n ≤ n
  | 0 => Nat.le_refl _
  | n + 1 => by have := leastK_le F n; rw [leastK]; split <;> omega
theorem leastK_yes {F : Nat → List Int} {n : Nat} (h : lexLt (F (n + 1)) (F (leastK F n)) = true) : leastK F (n + 1) = n + 1 := by rw [leastK, if_pos h]
theorem leastK_no {F : Nat → List Int} {n : Nat} (h : lexLt (F (n + 1)) (F (leastK F n)) = false) : leastK F (n + 1) = leastK F n := by rw [leastK, if_neg (by simp [h])]
/-- The canonical cards of a list, and the code beside them. -/
def canR (xs : List Int) : List Int := if cardsB xs = true then imgS xs (leastK (imgS xs) 23) else []
theorem canR_len (xs : List Int) : (canR xs).length ≤ 52 := by
  unfold canR
  split
  · rename_i h; rw [imgS_len]; exact deck_len xs h
  · simp
theorem mask_perm {xs ys : List Int} (h : xs.Perm ys) : maskOf xs = maskOf ys := by
  apply Nat.eq_of_testBit_eq
  intro i
  rw [mask_bit, mask_bit, Bool.eq_iff_iff, List.any_eq_true, List.any_eq_true]
  exact ⟨fun ⟨x, hx, e⟩ => ⟨x, h.mem_iff.1 hx, e⟩, fun ⟨x, hx, e⟩ => ⟨x, h.mem_iff.2 hx, e⟩⟩
/-- What the program lists of a set's image is the image, sorted. -/
theorem inOrder_img {xs : List Int} (h : cardsB xs = true) {k : Nat} (hk : k < 24) : inOrder (maskOf (img ((exN 256).getD k []) (sortA xs))) = imgS xs k := by
  rw [mask_perm (xs := img ((exN 256).getD k []) (sortA xs)) (ys := img ((exN 256).getD k []) xs) ((sortA_facts xs).1.map _)]
  exact order_mask (img_cards (isX_at hk) h)
end Go.Proofs.YtilbkgnjgmlhjaaDoor
