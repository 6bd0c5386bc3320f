/-
  The program's RanksIn and SuitsIn: the bits of the set within the cards of each kind.
-/
import Derived.Test.YtimdgaclmejjhaaOnes
import Derived.Test.YtimdgaclmejjhaaMark
import Derived.Test.YtimdgaclmejjhaaBase
namespace Go.Proofs.Ytimdgaclmejjhaa
open Go.RowKit
set_option linter.unusedVariables false

/-- The bits of a rank, and those of a suit. -/
def rankK (j : Nat) : Nat := 15 * 2 ^ (j * 4)
def suitK (s : Nat) : Nat → Nat
  | 0 => 0
  | k + 1 => suitK s k ||| 2 ^ (k * 4 + s)
theorem rankK_bit : ∀ j : Fin 13, ∀ i : Fin 52, (rankK j.val).testBit i.val = decide (i.val / 4 = j.val) := by decide +kernel
theorem suitK_bit : ∀ s : Fin 4, ∀ i : Fin 52, (suitK s.val 13).testBit i.val = decide (i.val % 4 = s.val) := by decide +kernel
theorem rankK_lt (j : Nat) (h : j < 13) : rankK j < 2 ^ 53 := by
  unfold rankK
  have : 2 ^ (j * 4) ≤ 2 ^ 48 := Nat.pow_le_pow_right (by omega) (by omega)
  omega
theorem suitK_lt : ∀ s : Fin 4, ∀ k : Fin 14, suitK s.val k.val < 2 ^ 53 := by decide +kernel
theorem rank_cnt (xs : List Int) (h : cardsB xs = true) (j : Nat) (hj : j < 13) : pop 64 (maskOf xs &&& rankK j) = cnt (fun x => x / 4 == (j : Int)) xs := by
  have k := pop_mask (rankK j) xs h xs.length (Nat.le_refl _)
  rw [take_len] at k
  rw [k]
  refine cnt_congr fun x hx => ?_
  have hc := (cards_iff xs).1 h |>.1 x hx
  have := rankK_bit ⟨j, hj⟩ ⟨x.toNat, by omega⟩
  simp only at this
  rw [this, Bool.eq_iff_iff]
  simp
  omega
theorem suit_cnt (xs : List Int) (h : cardsB xs = true) (j : Nat) (hj : j < 4) : pop 64 (maskOf xs &&& suitK j 13) = cnt (fun x => x % 4 == (j : Int)) xs := by
  have k := pop_mask (suitK j 13) xs h xs.length (Nat.le_refl _)
  rw [take_len] at k
  rw [k]
  refine cnt_congr fun x hx => ?_
  have hc := (cards_iff xs).1 h |>.1 x hx
  have := suitK_bit ⟨j, hj⟩ ⟨x.toNat, by omega⟩
  simp only at this
  rw [this, Bool.eq_iff_iff]
  simp
  omega

theorem rankK_shift (j : Nat) (h : j < 13) : IntKind.u64.wrap (15 * 2 ^ (j * 4)) = ((rankK j : Nat) : Int) := by
  have l := rankK_lt j h
  have e : (15 : Int) * 2 ^ (j * 4) = ((rankK j : Nat) : Int) := by unfold rankK; simp
  rw [e]
  exact wraps_u64 _ (by omega) (by omega)
theorem suitK_step (s k : Nat) (hs : s < 4) (hk : k < 13) : bits .or .u64 (suitK s k : Nat) (IntKind.u64.wrap (2 ^ (k * 4 + s))) = ((suitK s (k + 1) : Nat) : Int) := by
  have l := suitK_lt ⟨s, hs⟩ ⟨k, by omega⟩
  simp only at l
  have p : 2 ^ (k * 4 + s) < 2 ^ 52 := pow_lt _ (by omega)
  have e : (2 : Int) ^ (k * 4 + s) = ((2 ^ (k * 4 + s) : Nat) : Int) := by simp
  have d : suitK s (k + 1) = suitK s k ||| 2 ^ (k * 4 + s) := rfl
  rw [e, d]
  generalize 2 ^ (k * 4 + s) = q at p
  rw [wraps_u64 _ (by omega) (by omega), u64_or _ _ (by omega) (by omega)]
/-- The counts that countsIn writes. -/
def popL (n : Nat) (K : Nat → Nat) (m : Nat) : List Int := (List.range n).map (fun j : Nat => (pop 64 (m &&& K j) : Int))
theorem popL_length (n : Nat) (K : Nat → Nat) (m : Nat) : (popL n K m).length = n := by simp [popL]
theorem popL_nth (n : Nat) (K : Nat → Nat) (m j : Nat) (h : j < n) : nth (popL n K m) j = (pop 64 (m &&& K j) : Int) := by
  rw [nth_eq _ _ (by rw [popL_length]; exact h)]; simp [popL]
theorem popL_eq (n : Nat) (K : Nat → Nat) (key : Int → Int) (xs : List Int) (h : ∀ j, j < n → pop 64 (maskOf xs &&& K j) = cnt (fun x => key x == (j : Int)) xs) : popL n K (maskOf xs) = cntL n key xs := by
  unfold popL cntL
  apply List.map_congr_left
  intro j hj
  rw [h j (by simpa using hj)]

/-- What RanksIn and SuitsIn answer. -/
def ranksL (xs : List Int) : List Int := if cardsB xs = true then cntL 13 (fun x => x / 4) xs else []
def suitsL (xs : List Int) : List Int := if cardsB xs = true then cntL 4 (fun x => x % 4) xs else []
theorem newLC_no {ys : List Int} {k : Int} {w : World} {e : Ending} {w' : World} (h : Same (.tuple #[.slice none 0 0, .int .i64 1]) w e w') (ey : ys = []) (ek : k = 1) : NewLC ys k w e w' := by
  obtain ⟨rfl, rfl⟩ := h
  subst ey ek
  exact ⟨none, 0, rfl, Own.nil w _, bl_refl _⟩
theorem ranks_yes (xs : List Int) (h : cardsB xs = true) : popL 13 (fun j => rankK j) (maskOf xs) = ranksL xs := by
  unfold ranksL; rw [if_pos h]; exact popL_eq 13 _ _ xs (fun j hj => rank_cnt xs h j hj)
theorem suits_yes (xs : List Int) (h : cardsB xs = true) : popL 4 (fun j => suitK j 13) (maskOf xs) = suitsL xs := by
  unfold suitsL; rw [if_pos h]; exact popL_eq 4 _ _ xs (fun j hj => suit_cnt xs h j hj)

end Go.Proofs.Ytimdgaclmejjhaa
