/-
  Plain facts on tables of seats: which are valid, who sits left of whom, antes, blinds, the seats in their order, and the table behind a hand.
-/
import Derived.Test.YtlcimofhpphefaaBase
namespace Go.Proofs.Ytlcimofhpphefaa
open Go.RowKit
set_option linter.unusedVariables false

/-- A table is valid: stacks, button, small blind, big blind, ante, limit. -/
def tabB (xs : List Int) (b s g a l : Int) : Bool :=
  decide (2 ≤ xs.length ∧ xs.length ≤ 6 ∧ (∀ i, i < xs.length → 1 ≤ nth xs i ∧ nth xs i ≤ 100000) ∧ 0 ≤ b ∧ b < xs.length ∧ 1 ≤ g ∧ g ≤ 100000 ∧ 0 ≤ s ∧ s ≤ g ∧ 0 ≤ a ∧ a ≤ 100000 ∧ 0 ≤ l ∧ l ≤ 2)
theorem tab_iff {xs : List Int} {b s g a l : Int} : tabB xs b s g a l = true ↔ (2 ≤ xs.length ∧ xs.length ≤ 6 ∧ (∀ i, i < xs.length → 1 ≤ nth xs i ∧ nth xs i ≤ 100000) ∧ 0 ≤ b ∧ b < xs.length ∧ 1 ≤ g ∧ g ≤ 100000 ∧ 0 ≤ s ∧ s ≤ g ∧ 0 ≤ a ∧ a ≤ 100000 ∧ 0 ≤ l ∧ l ≤ 2) := by
  unfold tabB; exact decide_eq_true_iff
theorem tab_no {xs : List Int} {b s g a l : Int} (h : ¬ (2 ≤ xs.length ∧ xs.length ≤ 6 ∧ (∀ i, i < xs.length → 1 ≤ nth xs i ∧ nth xs i ≤ 100000) ∧ 0 ≤ b ∧ b < xs.length ∧ 1 ≤ g ∧ g ≤ 100000 ∧ 0 ≤ s ∧ s ≤ g ∧ 0 ≤ a ∧ a ≤ 100000 ∧ 0 ≤ l ∧ l ≤ 2)) : tabB xs b s g a l = false := by
  unfold tabB; exact decide_eq_false h

/-- The seat left of a seat. -/
def leftI (s n : Int) : Int := (s + 1) % n
theorem left_bd (s n : Int) (h : 0 < n) : 0 ≤ leftI s n ∧ leftI s n < n := ⟨Int.emod_nonneg _ (by omega), Int.emod_lt_of_pos _ h⟩
theorem left_tmod (s n : Int) (h : 0 ≤ s) : (s + 1).tmod n = leftI s n := Int.tmod_eq_emod_of_nonneg (by omega)
theorem left_two (s n : Int) (h0 : 0 ≤ s) (h : s < n) : leftI s n = if s + 1 = n then 0 else s + 1 := by
  unfold leftI
  split
  · next e => rw [e]; exact Int.emod_self
  · exact Int.emod_eq_of_lt (by omega) (by omega)
theorem left_ne (s n : Int) (h0 : 0 ≤ s) (h : s < n) (hn : 2 ≤ n) : leftI s n ≠ s := by
  rw [left_two s n h0 h]; split <;> omega
/-- The seats of the blinds. -/
def smallI (n b : Int) : Int := if n = 2 then b else leftI b n
def bigI (n b : Int) : Int := leftI (smallI n b) n
theorem small_bd (n b : Int) (h : 0 < n) (h0 : 0 ≤ b) (h1 : b < n) : 0 ≤ smallI n b ∧ smallI n b < n := by
  unfold smallI; split
  · exact ⟨h0, h1⟩
  · exact left_bd _ _ h
theorem big_bd (n b : Int) (h : 0 < n) : 0 ≤ bigI n b ∧ bigI n b < n := left_bd _ _ h
theorem blinds_ne (n b : Int) (h : 2 ≤ n) (h0 : 0 ≤ b) (h1 : b < n) : smallI n b ≠ bigI n b := by
  obtain ⟨k1, k2⟩ := small_bd n b (by omega) h0 h1
  exact fun e => left_ne _ n k1 k2 h e.symm

/-- The code of a table that need not be valid. -/
def tabC (xs : List Int) (b s g a l : Int) : Int := if tabB xs b s g a l = true then 0 else 1
theorem tabC_bd (xs : List Int) (b s g a l : Int) : 0 ≤ tabC xs b s g a l ∧ tabC xs b s g a l ≤ 1 := by unfold tabC; split <;> omega
theorem tabC_yes {xs : List Int} {b s g a l : Int} (h : tabB xs b s g a l = true) : tabC xs b s g a l = 0 := if_pos h
theorem tabC_no {xs : List Int} {b s g a l : Int} (h : tabB xs b s g a l = false) : tabC xs b s g a l = 1 := by unfold tabC; rw [h]; rfl
def bsX (xs : List Int) (b s g a l : Int) : Int := if tabB xs b s g a l = true then smallI xs.length b else 0
def bsY (xs : List Int) (b s g a l : Int) : Int := if tabB xs b s g a l = true then bigI xs.length b else 0
theorem bs_yes {xs : List Int} {b s g a l : Int} (h : tabB xs b s g a l = true) : bsX xs b s g a l = smallI xs.length b ∧ bsY xs b s g a l = bigI xs.length b := ⟨if_pos h, if_pos h⟩
theorem bs_no {xs : List Int} {b s g a l : Int} (h : tabB xs b s g a l = false) : bsX xs b s g a l = 0 ∧ bsY xs b s g a l = 0 := by unfold bsX bsY; rw [h]; exact ⟨rfl, rfl⟩

/-- The smaller one of two. -/
def minT (a b : Int) : Int := if b < a then b else a
theorem minT_le (a b : Int) : minT a b ≤ a ∧ minT a b ≤ b ∧ (minT a b = a ∨ minT a b = b) := by unfold minT; split <;> omega
theorem minT_lt (a b : Int) (h : b < a) : minT a b = b := if_pos h
theorem minT_ge (a b : Int) (h : ¬ b < a) : minT a b = a := if_neg h
/-- The antes. -/
def anteL (xs : List Int) (a : Int) : List Int := xs.map (minT a)
theorem anteL_len (xs : List Int) (a : Int) : (anteL xs a).length = xs.length := by simp [anteL]
theorem anteL_nth (xs : List Int) (a : Int) (i : Nat) (h : i < xs.length) : nth (anteL xs a) i = minT a (nth xs i) := by
  rw [nth_eq _ _ (by rw [anteL_len]; exact h), nth_eq _ _ h]; simp [anteL]
theorem anteL_take (xs : List Int) (a : Int) (k : Nat) (h : k < xs.length) : (anteL xs a).take (k + 1) = (anteL xs a).take k ++ [minT a (nth xs k)] := by
  rw [take_nth _ k (by rw [anteL_len]; exact h), anteL_nth xs a k h]
/-- What a seat bets as its blind. -/
def blindV (xs : List Int) (a v : Int) (i : Int) : Int := minT v (nth xs i.toNat - minT a (nth xs i.toNat))
/-- The blinds. -/
def blindL (xs : List Int) (b s g a : Int) : List Int :=
  ((List.replicate xs.length (0 : Int)).set (smallI xs.length b).toNat (blindV xs a s (smallI xs.length b))).set (bigI xs.length b).toNat (blindV xs a g (bigI xs.length b))
theorem blindL_len (xs : List Int) (b s g a : Int) : (blindL xs b s g a).length = xs.length := by simp [blindL]
/-- The seat that acts first in a street. -/
def firstI (n b street : Int) : Int := if street = 0 then leftI (bigI n b) n else leftI b n

/-- The first seat of a street, and the code. -/
def fsX (xs : List Int) (b s g a l t : Int) : Int := if tabB xs b s g a l = true ∧ 0 ≤ t ∧ t ≤ 3 then firstI xs.length b t else 0
def fsC (xs : List Int) (b s g a l t : Int) : Int := if tabB xs b s g a l = true then (if 0 ≤ t ∧ t ≤ 3 then 0 else 2) else 1
theorem fs_no {xs : List Int} {b s g a l : Int} (t : Int) (h : tabB xs b s g a l = false) : fsX xs b s g a l t = 0 ∧ fsC xs b s g a l t = 1 := by unfold fsX fsC; rw [h]; exact ⟨rfl, rfl⟩
theorem fs_out {xs : List Int} {b s g a l t : Int} (h : tabB xs b s g a l = true) (ht : ¬ (0 ≤ t ∧ t ≤ 3)) : fsX xs b s g a l t = 0 ∧ fsC xs b s g a l t = 2 := ⟨if_neg (fun q => ht q.2), by unfold fsC; rw [if_pos h, if_neg ht]⟩
theorem fs_yes {xs : List Int} {b s g a l t : Int} (h : tabB xs b s g a l = true) (ht : 0 ≤ t ∧ t ≤ 3) : fsX xs b s g a l t = firstI xs.length b t ∧ fsC xs b s g a l t = 0 := ⟨if_pos ⟨h, ht⟩, by unfold fsC; rw [if_pos h, if_pos ht]⟩

/-- The k-th seat from a seat on. -/
def seatAt (n s : Int) (k : Nat) : Int := (s + k) % n
theorem seatAt_zero (n s : Int) (h0 : 0 ≤ s) (h : s < n) : seatAt n s 0 = s := by unfold seatAt; simpa using Int.emod_eq_of_lt h0 h
theorem seatAt_bd (n s : Int) (k : Nat) (h : 0 < n) : 0 ≤ seatAt n s k ∧ seatAt n s k < n := ⟨Int.emod_nonneg _ (by omega), Int.emod_lt_of_pos _ h⟩
theorem seatAt_next (n s : Int) (k : Nat) : leftI (seatAt n s k) n = seatAt n s (k + 1) := by
  unfold leftI seatAt
  rw [Int.emod_add_emod]
  congr 1
  omega
theorem seatAt_tmod (n s : Int) (k : Nat) (h : 0 ≤ s) : (s + k).tmod n = seatAt n s k := Int.tmod_eq_emod_of_nonneg (by omega)
/-- All seats from a seat on. -/
def fromL (n : Nat) (s : Int) : List Int := (List.range n).map (seatAt n s)
theorem fromL_len (n : Nat) (s : Int) : (fromL n s).length = n := by simp [fromL]
theorem fromL_nth (n : Nat) (s : Int) (k : Nat) (h : k < n) : nth (fromL n s) k = seatAt n s k := by
  rw [nth_eq _ _ (by rw [fromL_len]; exact h)]; simp [fromL]
theorem fromL_take (n : Nat) (s : Int) (k : Nat) (h : k < n) : (fromL n s).take (k + 1) = (fromL n s).take k ++ [seatAt n s k] := by
  rw [take_nth _ k (by rw [fromL_len]; exact h), fromL_nth n s k h]

/-- All seats from a seat on, and the code. -/
def sfR (xs : List Int) (b s g a l t : Int) : List Int := if tabB xs b s g a l = true ∧ 0 ≤ t ∧ t < xs.length then fromL xs.length t else []
def sfC (xs : List Int) (b s g a l t : Int) : Int := if tabB xs b s g a l = true then (if 0 ≤ t ∧ t < xs.length then 0 else 2) else 1
theorem sf_no {xs : List Int} {b s g a l : Int} (t : Int) (h : tabB xs b s g a l = false) : sfR xs b s g a l t = [] ∧ sfC xs b s g a l t = 1 := by unfold sfR sfC; rw [h]; exact ⟨rfl, rfl⟩
theorem sf_out {xs : List Int} {b s g a l t : Int} (h : tabB xs b s g a l = true) (ht : ¬ (0 ≤ t ∧ t < xs.length)) : sfR xs b s g a l t = [] ∧ sfC xs b s g a l t = 2 := ⟨if_neg (fun q => ht q.2), by unfold sfC; rw [if_pos h, if_neg ht]⟩
theorem sf_yes {xs : List Int} {b s g a l t : Int} (h : tabB xs b s g a l = true) (ht : 0 ≤ t ∧ t < xs.length) : sfR xs b s g a l t = fromL xs.length t ∧ sfC xs b s g a l t = 0 := ⟨if_pos ⟨h, ht⟩, by unfold sfC; rw [if_pos h, if_pos ht]⟩
theorem sfR_len (xs : List Int) (b s g a l t : Int) : (sfR xs b s g a l t).length ≤ xs.length := by
  unfold sfR; split
  · rw [fromL_len]; exact Nat.le_refl _
  · simp
/-- Antes, blinds, and nothing where the table is not valid. -/
def antR (xs : List Int) (b s g a l : Int) : List Int := if tabB xs b s g a l = true then anteL xs a else []
def bldR (xs : List Int) (b s g a l : Int) : List Int := if tabB xs b s g a l = true then blindL xs b s g a else []
theorem antR_len (xs : List Int) (b s g a l : Int) : (antR xs b s g a l).length ≤ xs.length := by
  unfold antR; split
  · rw [anteL_len]; exact Nat.le_refl _
  · simp
theorem bldR_len (xs : List Int) (b s g a l : Int) : (bldR xs b s g a l).length ≤ xs.length := by
  unfold bldR; split
  · rw [blindL_len]; exact Nat.le_refl _
  · simp
/-- The sum of the first k numbers. -/
def sumT (xs : List Int) : Nat → Int
  | 0 => 0
  | k + 1 => sumT xs k + nth xs k
theorem sumT_bd (xs : List Int) (h : ∀ i, i < xs.length → 0 ≤ nth xs i ∧ nth xs i ≤ 100000) : ∀ k, k ≤ xs.length → 0 ≤ sumT xs k ∧ sumT xs k ≤ k * 100000
  | 0, _ => ⟨Int.le_refl _, by simp [sumT]⟩
  | k + 1, hk => by
    have ih := sumT_bd xs h k (by omega)
    have hb := h k (by omega)
    unfold sumT
    omega
def chX (xs : List Int) (b s g a l : Int) : Int := if tabB xs b s g a l = true then sumT xs xs.length else 0

/-- The stacks that remain. -/
def restL (ys : List Int) : List Int := ys.filter (fun y => decide (0 < y))
theorem restL_len (ys : List Int) : (restL ys).length ≤ ys.length := List.length_filter_le _ _
theorem restL_snoc (ys : List Int) (y : Int) : restL (ys ++ [y]) = if 0 < y then restL ys ++ [y] else restL ys := by
  unfold restL
  rw [List.filter_append]
  split
  · next h => rw [List.filter_cons_of_pos (by simpa using h)]; rfl
  · next h => rw [List.filter_cons_of_neg (by simpa using h)]; simp
theorem restL_take (ys : List Int) (k : Nat) (h : k < ys.length) : restL (ys.take (k + 1)) = if 0 < nth ys k then restL (ys.take k) ++ [nth ys k] else restL (ys.take k) := by
  rw [take_nth ys k h, restL_snoc]
theorem restL_mem {ys : List Int} {y : Int} (h : y ∈ restL ys) : y ∈ ys ∧ 0 < y := by
  unfold restL at h
  rw [List.mem_filter] at h
  exact ⟨h.1, by simpa using h.2⟩
/-- All numbers are a stack or nothing. -/
def chipsB (ys : List Int) : Bool := decide (∀ i, i < ys.length → 0 ≤ nth ys i ∧ nth ys i ≤ 100000)
theorem chips_iff {ys : List Int} : chipsB ys = true ↔ ∀ i, i < ys.length → 0 ≤ nth ys i ∧ nth ys i ≤ 100000 := by unfold chipsB; exact decide_eq_true_iff
theorem chips_no {ys : List Int} (k : Nat) (hk : k < ys.length) (h : ¬ (0 ≤ nth ys k ∧ nth ys k ≤ 100000)) : chipsB ys = false := by
  unfold chipsB; exact decide_eq_false fun hh => h (hh k hk)
/-- After how many seats from the one left of the button the first one that remains comes. -/
def hopsI (ys : List Int) (b : Int) : Nat := (List.range ys.length).findIdx (fun k => decide (0 < nth ys (seatAt ys.length (leftI b ys.length) k).toNat))
theorem hops_before (ys : List Int) (b : Int) (k : Nat) (h : k < hopsI ys b) (hk : k < ys.length) : ¬ 0 < nth ys (seatAt ys.length (leftI b ys.length) k).toNat := by
  have := List.not_of_lt_findIdx h
  simpa using this
theorem hops_at (ys : List Int) (b : Int) (h : hopsI ys b < ys.length) : 0 < nth ys (seatAt ys.length (leftI b ys.length) (hopsI ys b)).toNat := by
  have := List.findIdx_getElem (p := fun k => decide (0 < nth ys (seatAt ys.length (leftI b ys.length) k).toNat)) (xs := List.range ys.length) (w := by rw [List.length_range]; exact h)
  simpa [hopsI] using this
/-- Every seat comes. -/
theorem seat_comes (n : Nat) (s : Int) (i : Nat) (h : i < n) : ∃ k, k < n ∧ seatAt n s k = i := by
  refine ⟨((i - s) % n).toNat, ?_, ?_⟩
  · have := Int.emod_lt_of_pos (i - s) (show (0 : Int) < n by omega)
    have := Int.emod_nonneg (i - s) (show (n : Int) ≠ 0 by omega)
    omega
  · unfold seatAt
    have := Int.emod_nonneg (i - s) (show (n : Int) ≠ 0 by omega)
    rw [Int.toNat_of_nonneg this, Int.add_emod_emod]
    rw [show s + ((i : Int) - s) = i by omega]
    exact Int.emod_eq_of_lt (by omega) (by omega)
theorem hops_lt (ys : List Int) (b : Int) (h : 0 < (restL ys).length) : hopsI ys b < ys.length := by
  obtain ⟨y, hy⟩ := List.exists_mem_of_length_pos h
  obtain ⟨hy1, hy2⟩ := restL_mem hy
  obtain ⟨i, hi, e⟩ := List.getElem_of_mem hy1
  obtain ⟨k, hk, ek⟩ := seat_comes ys.length (leftI b ys.length) i hi
  have : hopsI ys b < (List.range ys.length).length := List.findIdx_lt_length_of_exists ⟨k, by simpa using hk, by
    rw [ek]
    simp only [Int.toNat_natCast, decide_eq_true_eq]
    rw [nth_eq ys i hi, e]; exact hy2⟩
  simpa using this
/-- The seat that has the button next, among all seats; among those that remain. -/
def nextI (ys : List Int) (b : Int) : Int := seatAt ys.length (leftI b ys.length) (hopsI ys b)
def newB (ys : List Int) (b : Int) : Int := (restL (ys.take (nextI ys b).toNat)).length
theorem newB_lt (ys : List Int) (b : Int) (h : 0 < (restL ys).length) : newB ys b < (restL ys).length := by
  have hl := hops_lt ys b h
  have hp := hops_at ys b hl
  have hb := seatAt_bd ys.length (leftI b ys.length) (hopsI ys b) (by omega)
  unfold newB nextI
  generalize seatAt ys.length (leftI b ys.length) (hopsI ys b) = i at *
  obtain ⟨k, rfl⟩ := Int.eq_ofNat_of_zero_le hb.1
  have hk : k < ys.length := by omega
  simp only [Int.toNat_natCast] at *
  have e : restL ys = restL (ys.take (k + 1)) ++ restL (ys.drop (k + 1)) := by
    unfold restL; rw [← List.filter_append, List.take_append_drop]
  rw [e, restL_take ys k hk, if_pos hp]
  simp
  omega
end Go.Proofs.Ytlcimofhpphefaa
