/-
  Plain facts on the combinations of a range.
-/
import Derived.Test.YtjmfecjgomkofabDoorRngPure
import Derived.Test.YtjmfecjgomkofabDoorComboCount
namespace Go.Proofs.YtjmfecjgomkofabDoor
set_option linter.unusedVariables false

/-- All combinations of a list of classes none of whose cards is in a list, class by class. -/
def rcP (r dead : List Int) : List (Int × Int) := r.flatMap (fun k => combosP k dead)
theorem rcP_nil (dead : List Int) : rcP [] dead = [] := rfl
theorem rcP_snoc (r dead : List Int) (k : Int) : rcP (r ++ [k]) dead = rcP r dead ++ combosP k dead := by
  unfold rcP; rw [List.flatMap_append]; simp
theorem combosP_le (k : Int) (dead : List Int) : (combosP k dead).length ≤ (combosP k []).length := by
  rw [combosP_dead, combosP_dead k []]
  have e : (ofCls k (pairsOf all52)).filter (fun q => !hasB [] q.1 && !hasB [] q.2) = ofCls k (pairsOf all52) := by
    rw [List.filter_eq_self]; intro q _; simp [hasB]
  rw [e]
  exact List.length_filter_le _ _
theorem combosP_all (k : Int) (h0 : 0 ≤ k) (h1 : k < 169) : (combosP k []).length = wantN k.toNat := by
  rw [combosP_dead]
  have e : (ofCls k (pairsOf all52)).filter (fun q => !hasB [] q.1 && !hasB [] q.2) = ofCls k (pairsOf all52) := by
    rw [List.filter_eq_self]; intro q _; simp [hasB]
  rw [e]; exact cls_count k h0 h1
theorem combosP_12 (k : Int) (dead : List Int) (h0 : 0 ≤ k) (h1 : k < 169) : (combosP k dead).length ≤ 12 := by
  have h2 := combosP_le k dead
  rw [combosP_all k h0 h1] at h2
  unfold wantN at h2
  split at h2
  · omega
  · split at h2 <;> omega
theorem rcP_le (dead : List Int) : ∀ r : List Int, (rcP r dead).length ≤ (rcP r []).length
  | [] => Nat.le_refl _
  | k :: r => by
    have h1 := rcP_le dead r
    have h2 := combosP_le k dead
    unfold rcP at h1 ⊢
    rw [List.flatMap_cons, List.flatMap_cons, List.length_append, List.length_append]; omega
theorem rcP_bd (dead : List Int) : ∀ r : List Int, (∀ x ∈ r, 0 ≤ x ∧ x < 169) → (rcP r dead).length ≤ 12 * r.length
  | [], _ => Nat.le_refl _
  | k :: r, h => by
    have h1 := rcP_bd dead r (fun x hx => h x (by simp [hx]))
    have hk := h k (by simp)
    have h2 := combosP_12 k dead hk.1 hk.2
    unfold rcP at h1 ⊢
    rw [List.flatMap_cons, List.length_append, List.length_cons]; omega
/-- The sizes of classes. -/
def sizeS (r : List Int) : Nat := (r.map (fun k => wantN k.toNat)).sum
theorem sizeS_snoc (r : List Int) (k : Int) : sizeS (r ++ [k]) = sizeS r + wantN k.toNat := by unfold sizeS; simp
theorem rcP_size : ∀ r : List Int, (∀ x ∈ r, 0 ≤ x ∧ x < 169) → (rcP r []).length = sizeS r
  | [], _ => rfl
  | k :: r, h => by
    have h1 := rcP_size r (fun x hx => h x (by simp [hx]))
    have hk := h k (by simp)
    have h2 := combosP_all k hk.1 hk.2
    unfold rcP sizeS at *
    rw [List.flatMap_cons, List.length_append, List.map_cons, List.sum_cons, h1, h2]
theorem sum_parts (p : Int → Bool) (f : Int → Nat) : ∀ l : List Int, ((l.filter p).map f).sum + ((l.filter (fun c => !p c)).map f).sum = (l.map f).sum
  | [] => rfl
  | x :: l => by
    have := sum_parts p f l
    simp only [List.filter_cons, List.map_cons, List.sum_cons]
    cases hp : p x <;> simp <;> omega
theorem sum_1326 : (((List.range 169).map (fun i : Nat => (i : Int))).map (fun k => wantN k.toNat)).sum = 1326 := by decide +kernel
theorem size_parts (p : Int → Bool) : sizeS (clsIn p) + sizeS (clsIn (fun c => !p c)) = 1326 := by
  have := sum_parts p (fun k => wantN k.toNat) ((List.range 169).map (fun i : Nat => (i : Int)))
  rw [sum_1326] at this
  exact this
theorem clsIn_bd (p : Int → Bool) : ∀ x ∈ clsIn p, 0 ≤ x ∧ x < 169 := fun x hx => ((clsIn_mem p x).1 hx).1
/-- The combinations of a range and of the others. -/
theorem rc_1326 {r : List Int} (h : rngB r = true) : (rcP r []).length + (rcP (clsIn (fun c => !hasB r c)) []).length = 1326 := by
  rw [rcP_size r (rng_mem h), rcP_size _ (clsIn_bd _)]
  have := size_parts (hasB r)
  rwa [← rng_cls h] at this
/-- What CountCombos and RangeCombos answer. -/
def liveP (r dead : List Int) : List (Int × Int) := if (rngB r && cardsB dead) = true then rcP r dead else []
def liveC (r dead : List Int) : Int := if rngB r = true then (if cardsB dead = true then 0 else 2) else 1
def liveR (r dead : List Int) : Nat → List Int := fun j => two ((liveP r dead).getD j (0, 0))
theorem live_bad {r dead : List Int} (h : rngB r = false) : liveP r dead = [] ∧ liveC r dead = 1 := by unfold liveP liveC; rw [h]; exact ⟨rfl, rfl⟩
theorem live_dead {r dead : List Int} (h : rngB r = true) (hd : cardsB dead = false) : liveP r dead = [] ∧ liveC r dead = 2 := by unfold liveP liveC; rw [h, hd]; exact ⟨rfl, rfl⟩
theorem live_yes {r dead : List Int} (h : rngB r = true) (hd : cardsB dead = true) : liveP r dead = rcP r dead ∧ liveC r dead = 0 := by unfold liveP liveC; rw [h, hd]; exact ⟨rfl, rfl⟩
theorem live_bd (r dead : List Int) : (liveP r dead).length ≤ 2028 := by
  by_cases h : (rngB r && cardsB dead) = true
  · unfold liveP; rw [if_pos h]
    simp only [Bool.and_eq_true] at h
    have h1 := rcP_bd dead r (rng_mem h.1)
    have h2 := rng_len h.1
    omega
  · unfold liveP; rw [if_neg h]; simp
end Go.Proofs.YtjmfecjgomkofabDoor
