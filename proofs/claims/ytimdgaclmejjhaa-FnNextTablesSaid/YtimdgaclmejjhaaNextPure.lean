/-
  Plain facts on the table of the next hand.
-/
import Derived.Test.YtimdgaclmejjhaaTabPure
namespace Go.Proofs.Ytimdgaclmejjhaa
open Go.RowKit
set_option linter.unusedVariables false

/-- How many seats are left from a seat on, when one goes around from f on. -/
def backI (n f q : Int) : Nat := (n - (q - f) % n).toNat
theorem backI_at (n f : Int) (h : Nat) (hn : 0 < n) (hh : (h : Int) < n) : backI n f (seatAt n f h) = (n - h).toNat := by
  unfold backI seatAt
  have e : ((f + h) % n - f) % n = h := by
    rw [Int.sub_eq_add_neg, Int.emod_add_emod]
    rw [show f + (h : Int) + -f = h by omega]
    exact Int.emod_eq_of_lt (by omega) hh
  rw [e]
/-- The code of NextTable. -/
def ntC (xs : List Int) (b s g a l : Int) (ys : List Int) : Int :=
  if tabB xs b s g a l = true then (if ys.length = xs.length ∧ chipsB ys = true then (if (restL ys).length < 2 then 5 else 0) else 2) else 1
/-- The stacks of the next table; its other fields. -/
def ntL (xs : List Int) (b s g a l : Int) (ys : List Int) : List Int := if ntC xs b s g a l ys = 0 then restL ys else []
def ntF (xs : List Int) (b s g a l : Int) (ys : List Int) (x : Int) : Int := if ntC xs b s g a l ys = 0 then x else 0
theorem nt_bad {xs : List Int} {b s g a l : Int} {ys : List Int} (h : ntC xs b s g a l ys ≠ 0) : ntL xs b s g a l ys = [] ∧ ∀ x, ntF xs b s g a l ys x = 0 := ⟨if_neg h, fun x => if_neg h⟩
theorem nt_ok {xs : List Int} {b s g a l : Int} {ys : List Int} (h : ntC xs b s g a l ys = 0) : ntL xs b s g a l ys = restL ys ∧ ∀ x, ntF xs b s g a l ys x = x := ⟨if_pos h, fun x => if_pos h⟩
theorem ntC_tab {xs : List Int} {b s g a l : Int} (ys : List Int) (h : tabB xs b s g a l = false) : ntC xs b s g a l ys = 1 := by unfold ntC; rw [h]; rfl
theorem ntC_len {xs : List Int} {b s g a l : Int} {ys : List Int} (h : tabB xs b s g a l = true) (hl : ys.length ≠ xs.length) : ntC xs b s g a l ys = 2 := by unfold ntC; rw [if_pos h, if_neg (fun q => hl q.1)]
theorem ntC_chips {xs : List Int} {b s g a l : Int} {ys : List Int} (h : tabB xs b s g a l = true) (hl : chipsB ys = false) : ntC xs b s g a l ys = 2 := by unfold ntC; rw [if_pos h, if_neg (fun q => by rw [hl] at q; cases q.2)]
theorem ntC_few {xs : List Int} {b s g a l : Int} {ys : List Int} (h : tabB xs b s g a l = true) (hl : ys.length = xs.length) (hc : chipsB ys = true) (hf : (restL ys).length < 2) : ntC xs b s g a l ys = 5 := by unfold ntC; rw [if_pos h, if_pos ⟨hl, hc⟩, if_pos hf]
theorem ntC_ok {xs : List Int} {b s g a l : Int} {ys : List Int} (h : tabB xs b s g a l = true) (hl : ys.length = xs.length) (hc : chipsB ys = true) (hf : ¬ (restL ys).length < 2) : ntC xs b s g a l ys = 0 := by unfold ntC; rw [if_pos h, if_pos ⟨hl, hc⟩, if_neg hf]
theorem ntL_len (xs : List Int) (b s g a l : Int) (ys : List Int) : (ntL xs b s g a l ys).length ≤ ys.length := by
  unfold ntL; split
  · exact restL_len ys
  · simp
/-- How many remain ahead of each seat. -/
def numsL (ys : List Int) (k : Nat) : List Int := (List.range k).map (fun i => ((restL (ys.take i)).length : Int))
theorem numsL_len (ys : List Int) (k : Nat) : (numsL ys k).length = k := by simp [numsL]
theorem numsL_next (ys : List Int) (k : Nat) : numsL ys (k + 1) = numsL ys k ++ [((restL (ys.take k)).length : Int)] := by simp [numsL, List.range_succ]
theorem numsL_nth (ys : List Int) (k i : Nat) (h : i < k) : nth (numsL ys k) i = ((restL (ys.take i)).length : Int) := by
  rw [nth_eq _ _ (by rw [numsL_len]; exact h)]; simp [numsL]
theorem restL_take_len (ys : List Int) (k : Nat) : (restL (ys.take k)).length ≤ k := Nat.le_trans (restL_len _) (by rw [List.length_take]; omega)
theorem take_all (ys : List Int) : ys.take ys.length = ys := List.take_of_length_le (Nat.le_refl _)
/-- In a list of stacks, what remains is positive, and what does not is 0. -/
theorem chips_at {ys : List Int} (h : chipsB ys = true) (i : Nat) (hi : i < ys.length) : 0 ≤ nth ys i ∧ nth ys i ≤ 100000 := chips_iff.1 h i hi
theorem rest_stacks {ys : List Int} (h : chipsB ys = true) (i : Nat) (hi : i < (restL ys).length) : 1 ≤ nth (restL ys) i ∧ nth (restL ys) i ≤ 100000 := by
  obtain ⟨h1, h2⟩ := restL_mem (nth_mem (restL ys) i hi)
  obtain ⟨k, hk, e⟩ := List.getElem_of_mem h1
  have := chips_at h k hk
  rw [nth_eq ys k hk, e] at this
  omega
/-- The next table is valid. -/
theorem next_valid {xs : List Int} {b s g a l : Int} {ys : List Int} (h : tabB xs b s g a l = true) (hl : ys.length = xs.length) (hc : chipsB ys = true) (hf : ¬ (restL ys).length < 2) : tabB (restL ys) (newB ys b) s g a l = true := by
  obtain ⟨t0, t1, t2, t3, t4, t5, t6, t7, t8, t9, t10, t11, t12⟩ := tab_iff.1 h
  have hn := newB_lt ys b (by omega)
  have hr := restL_len ys
  exact tab_iff.2 ⟨by omega, by omega, fun i hi => rest_stacks hc i hi, by unfold newB; omega, hn, t5, t6, t7, t8, t9, t10, t11, t12⟩
theorem sumT_all_eq : ∀ (ys : List Int), sumT ys ys.length = ys.sum := by
  intro ys
  have h : ∀ k, k ≤ ys.length → sumT ys k = (ys.take k).sum := by
    intro k
    induction k with
    | zero => intro _; rfl
    | succ k ih =>
      intro hk
      rw [take_nth ys k (by omega), List.sum_append, sumT, ih (by omega)]
      simp
  rw [h _ (Nat.le_refl _), take_all]
theorem restL_sum (ys : List Int) (h : ∀ y ∈ ys, 0 ≤ y) : (restL ys).sum = ys.sum := by
  induction ys with
  | nil => rfl
  | cons y ys ih =>
    have ih := ih (fun z hz => h z (List.mem_cons_of_mem _ hz))
    have hy := h y (List.mem_cons_self ..)
    unfold restL at *
    rw [List.filter_cons]
    split
    · rw [List.sum_cons, List.sum_cons, ih]
    · next hn =>
      have : y = 0 := by simp at hn; omega
      rw [List.sum_cons, ih, this]
      omega
/-- The stacks that remain have all the chips. -/
theorem next_chips {ys : List Int} (h : chipsB ys = true) : sumT (restL ys) (restL ys).length = sumT ys ys.length := by
  rw [sumT_all_eq, sumT_all_eq]
  refine restL_sum ys fun y hy => ?_
  obtain ⟨k, hk, e⟩ := List.getElem_of_mem hy
  have := chips_at h k hk
  rw [nth_eq ys k hk, e] at this
  exact this.1
end Go.Proofs.Ytimdgaclmejjhaa
