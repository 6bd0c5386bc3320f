/-
  How many sets and how many sorted lists there are: the same.
-/
import Derived.Test.YtilbkgnjgmlhjabDoorOrbit
import Derived.Test.YtilbkgnjgmlhjabDoorSpecOrbit
namespace Go.Proofs.YtilbkgnjgmlhjabDoor
open Go.RowKit

theorem mask_perm {xs ys : List Int} (h : xs.Perm ys) : maskOf xs = maskOf ys := by
  apply Nat.eq_of_testBit_eq
  intro i
  rw [mask_bit, mask_bit, Bool.eq_iff_iff, List.any_eq_true, List.any_eq_true]
  exact ⟨fun ⟨x, hx, e⟩ => ⟨x, h.mem_iff.1 hx, e⟩, fun ⟨x, hx, e⟩ => ⟨x, h.mem_iff.2 hx, e⟩⟩
theorem orbF_mask (xs : List Int) (k : Nat) : orbF xs k = (maskOf (img (xch k) xs) : Nat) := by
  unfold orbF
  rw [mask_perm (xs := img (xch k) (sortA xs)) (ys := img (xch k) xs) ((sortA_facts xs).1.map _)]
theorem orb_same (xs : List Int) : orbC xs = orbS xs := by
  unfold orbC orbS
  split
  · rename_i hc
    congr 1
    refine distN_congr _ _ 24 (fun i j hi hj => ?_)
    rw [orbF_mask, orbF_mask]
    have h := sort_mask (img_cards (xch_is hi) hc) (img_cards (xch_is hj) hc)
    unfold imgS
    show _ ↔ sortA (img (xch i) xs) = sortA (img (xch j) xs)
    rw [h]
    constructor
    · intro e; omega
    · intro e; rw [e]
  · rfl
end Go.Proofs.YtilbkgnjgmlhjabDoor
