/-
  Plain facts on decks: rearranged lists, cuts, riffles, shuffles, hands that are dealt. Nothing of the program is imported.
-/
import Derived.Test.YtcbfmfkahgfjkaaDoorCardSet
namespace Go.Proofs.YtcbfmfkahgfjkaaDoor

/-- There are 52 cards. -/
theorem below_len : ∀ (n : Nat) (l : List Int), (∀ x ∈ l, 0 ≤ x ∧ x < n) → l.Nodup → l.length ≤ n
  | 0, [], _, _ => Nat.le_refl _
  | 0, x :: l, h, _ => by have := h x (by simp); omega
  | n + 1, l, h, hd => by
    by_cases hm : (n : Int) ∈ l
    · have ih := below_len n (l.erase n) (fun x hx => by
        have h1 := h x (List.mem_of_mem_erase hx)
        have h2 : x ≠ n := fun e => by subst e; exact (List.Nodup.not_mem_erase hd) hx
        omega) (hd.erase _)
      rw [List.length_erase_of_mem hm] at ih
      omega
    · have ih := below_len n l (fun x hx => by
        have h1 := h x hx
        have h2 : x ≠ n := fun e => hm (e ▸ hx)
        omega) hd
      omega
theorem deck_len (xs : List Int) (h : cardsB xs = true) : xs.length ≤ 52 := below_len 52 xs (fun x hx => (cards_iff xs).1 h |>.1 x hx) ((cards_iff xs).1 h).2
/-- A list is a deck. -/
def deckB (xs : List Int) : Bool := decide (xs.length = 52) && cardsB xs
theorem deck_iff (xs : List Int) : deckB xs = true ↔ xs.length = 52 ∧ cardsB xs = true := by unfold deckB; simp
theorem deck_no {xs : List Int} (h : ¬ xs.length = 52) : deckB xs = false := by unfold deckB; simp [h]
theorem deck_no' {xs : List Int} (h : cardsB xs = false) : deckB xs = false := by unfold deckB; simp [h]
theorem deck_at {xs : List Int} (h : xs.length = 52) : deckB xs = cardsB xs := by unfold deckB; simp [h]
theorem deck_mem (xs : List Int) (h : deckB xs = true) (x : Int) (h0 : 0 ≤ x) (h1 : x < 52) : x ∈ xs := by
  obtain ⟨hl, hc⟩ := (deck_iff xs).1 h
  by_cases hx : x ∈ xs
  · exact hx
  · have := deck_len _ (cards_snoc xs x hc h0 h1 hx)
    rw [List.length_append, hl] at this
    simp at this

/-- The i-th number of a list; 0 past its end. -/
def ix (xs : List Int) (i : Nat) : Int := xs.getD i 0
theorem ix_eq (xs : List Int) (i : Nat) (h : i < xs.length) : ix xs i = xs[i] := by unfold ix; rw [List.getD_eq_getElem?_getD, List.getElem?_eq_getElem h]; rfl
theorem ix_mem (xs : List Int) (i : Nat) (h : i < xs.length) : ix xs i ∈ xs := by rw [ix_eq xs i h]; exact List.getElem_mem h
theorem ix_inj (xs : List Int) (hd : xs.Nodup) (i j : Nat) (hi : i < xs.length) (hj : j < xs.length) (e : ix xs i = ix xs j) : i = j := by
  rw [ix_eq xs i hi, ix_eq xs j hj] at e
  exact (List.getElem_inj hd).1 e
theorem ix_ext {xs ys : List Int} (hl : xs.length = ys.length) (h : ∀ i, i < xs.length → ix xs i = ix ys i) : xs = ys := by
  apply List.ext_getElem hl
  intro i h1 h2
  rw [← ix_eq xs i h1, ← ix_eq ys i h2]
  exact h i h1
theorem ix_append_left (xs ys : List Int) (i : Nat) (h : i < xs.length) : ix (xs ++ ys) i = ix xs i := by
  rw [ix_eq _ i (by simp; omega), ix_eq _ i h, List.getElem_append_left h]
theorem ix_append_right (xs ys : List Int) (i : Nat) (h : i < ys.length) : ix (xs ++ ys) (xs.length + i) = ix ys i := by
  rw [ix_eq _ _ (by simp; omega), ix_eq _ i h, List.getElem_append_right (by omega)]
  simp
theorem ix_drop (xs : List Int) (n i : Nat) : ix (xs.drop n) i = ix xs (n + i) := by
  unfold ix; rw [List.getD_eq_getElem?_getD, List.getD_eq_getElem?_getD, List.getElem?_drop]
theorem ix_take (xs : List Int) (n i : Nat) (h : i < n) : ix (xs.take n) i = ix xs i := by
  unfold ix; rw [List.getD_eq_getElem?_getD, List.getD_eq_getElem?_getD, List.getElem?_take, if_pos h]
theorem ix_set_same (xs : List Int) (i : Nat) (x : Int) (h : i < xs.length) : ix (xs.set i x) i = x := by
  rw [ix_eq _ i (by simpa using h), List.getElem_set_self]
theorem ix_set_other (xs : List Int) (i j : Nat) (x : Int) (h : i ≠ j) : ix (xs.set i x) j = ix xs j := by
  unfold ix; rw [List.getD_eq_getElem?_getD, List.getD_eq_getElem?_getD, List.getElem?_set_ne h]

/-- The list that has, at each of n places p, the number at the place f p. -/
def permN (f : Nat → Nat) (n : Nat) (xs : List Int) : List Int := (List.range n).map (fun p => ix xs (f p))
def perm (f : Nat → Nat) (xs : List Int) : List Int := permN f 52 xs
theorem permN_length (f : Nat → Nat) (n : Nat) (xs : List Int) : (permN f n xs).length = n := by simp [permN]
theorem perm_length (f : Nat → Nat) (xs : List Int) : (perm f xs).length = 52 := permN_length f 52 xs
theorem permN_ix (f : Nat → Nat) (n : Nat) (xs : List Int) (p : Nat) (h : p < n) : ix (permN f n xs) p = ix xs (f p) := by
  rw [ix_eq _ p (by rw [permN_length]; exact h)]; simp [permN]
theorem perm_ix (f : Nat → Nat) (xs : List Int) (p : Nat) (h : p < 52) : ix (perm f xs) p = ix xs (f p) := permN_ix f 52 xs p h
theorem permN_snoc (f : Nat → Nat) (n : Nat) (xs : List Int) : permN f (n + 1) xs = permN f n xs ++ [ix xs (f n)] := by simp [permN, List.range_succ]
theorem permN_cards (f : Nat → Nat) (n : Nat) (xs : List Int) (h : cardsB xs = true) (hf : ∀ p, p < n → f p < xs.length) (hi : ∀ p q, p < n → q < n → f p = f q → p = q) : cardsB (permN f n xs) = true := by
  have hc := (cards_iff xs).1 h
  rw [cards_iff]
  refine ⟨fun x hx => ?_, ?_⟩
  · obtain ⟨p, hp, rfl⟩ := List.mem_map.1 hx
    exact hc.1 _ (ix_mem xs _ (hf p (by simpa using hp)))
  · unfold permN List.Nodup
    rw [List.pairwise_map]
    have hr : (List.range n).Pairwise (fun a b => a ∈ List.range n ∧ b ∈ List.range n ∧ a ≠ b) := by
      rw [List.pairwise_iff_getElem]
      intro i j h1 h2 hij
      simp at h1 h2 ⊢
      omega
    refine hr.imp (fun {a b} hab e => ?_)
    obtain ⟨ha, hb, hne⟩ := hab
    have ha' : a < n := by simpa using ha
    have hb' : b < n := by simpa using hb
    exact hne (hi a b ha' hb' (ix_inj xs hc.2 _ _ (hf a ha') (hf b hb') e))
theorem perm_deck (f : Nat → Nat) (xs : List Int) (h : deckB xs = true) (hf : ∀ p, p < 52 → f p < 52) (hi : ∀ p q, p < 52 → q < 52 → f p = f q → p = q) : deckB (perm f xs) = true := by
  obtain ⟨hl, hc⟩ := (deck_iff xs).1 h
  rw [deck_iff]
  exact ⟨perm_length f xs, permN_cards f 52 xs hc (fun p hp => by rw [hl]; exact hf p hp) hi⟩
theorem perm_perm (f g : Nat → Nat) (xs : List Int) (hg : ∀ p, p < 52 → g p < 52) : perm g (perm f xs) = perm (fun p => f (g p)) xs := by
  apply ix_ext (by rw [perm_length, perm_length])
  intro p hp
  rw [perm_length] at hp
  rw [perm_ix _ _ p hp, perm_ix _ _ _ (hg p hp), perm_ix _ _ p hp]
theorem perm_id (f : Nat → Nat) (xs : List Int) (hl : xs.length = 52) (hf : ∀ p, p < 52 → f p = p) : perm f xs = xs := by
  apply ix_ext (by rw [perm_length, hl])
  intro p hp
  rw [perm_length] at hp
  rw [perm_ix _ _ p hp, hf p hp]

/-! Cuts. -/
def cutF (n p : Nat) : Nat := (p + n) % 52
def rifF (p : Nat) : Nat := p / 2 + p % 2 * 26
def unrF (p : Nat) : Nat := p % 26 * 2 + p / 26
theorem cutF_lt (n p : Nat) : cutF n p < 52 := by unfold cutF; omega
theorem rifF_lt (p : Nat) (h : p < 52) : rifF p < 52 := by unfold rifF; omega
theorem unrF_lt (p : Nat) (h : p < 52) : unrF p < 52 := by unfold unrF; omega
theorem cut_deck (n : Nat) (xs : List Int) (h : deckB xs = true) (_hn : n ≤ 52) : deckB (perm (cutF n) xs) = true :=
  perm_deck _ xs h (fun p _ => cutF_lt n p) (fun p q hp hq e => by unfold cutF at e; omega)
theorem rif_deck (xs : List Int) (h : deckB xs = true) : deckB (perm rifF xs) = true :=
  perm_deck _ xs h rifF_lt (fun p q hp hq e => by unfold rifF at e; omega)
theorem unr_deck (xs : List Int) (h : deckB xs = true) : deckB (perm unrF xs) = true :=
  perm_deck _ xs h unrF_lt (fun p q hp hq e => by unfold unrF at e; omega)
theorem cut_back (n : Nat) (xs : List Int) (hl : xs.length = 52) (hn : n ≤ 52) : perm (cutF (52 - n)) (perm (cutF n) xs) = xs := by
  rw [perm_perm _ _ _ (fun p _ => cutF_lt _ p)]
  exact perm_id _ xs hl (fun p hp => by unfold cutF; omega)
theorem rif_back (xs : List Int) (hl : xs.length = 52) : perm unrF (perm rifF xs) = xs := by
  rw [perm_perm _ _ _ unrF_lt]
  exact perm_id _ xs hl (fun p hp => by unfold unrF rifF; omega)
/-- k riffles. -/
def riffles : Nat → List Int → List Int
  | 0, xs => xs
  | k + 1, xs => perm rifF (riffles k xs)
def rifK : Nat → Nat → Nat
  | 0, p => p
  | k + 1, p => rifK k (rifF p)
theorem rifK_lt : ∀ (k p : Nat), p < 52 → rifK k p < 52
  | 0, _, h => h
  | k + 1, p, h => rifK_lt k _ (rifF_lt p h)
theorem riffles_perm : ∀ (k : Nat) (xs : List Int), xs.length = 52 → riffles k xs = perm (rifK k) xs
  | 0, xs, h => (perm_id _ xs h (fun _ _ => rfl)).symm
  | k + 1, xs, h => by
    rw [riffles, riffles_perm k xs h, perm_perm _ _ _ rifF_lt]
    rfl
theorem rif8 : ∀ p : Fin 52, rifK 8 p.val = p.val := by decide +kernel
theorem riffles8 (xs : List Int) (hl : xs.length = 52) : riffles 8 xs = xs := by
  rw [riffles_perm 8 xs hl]
  exact perm_id _ xs hl (fun p hp => rif8 ⟨p, hp⟩)
theorem riffles_deck : ∀ (k : Nat) (xs : List Int), deckB xs = true → deckB (riffles k xs) = true
  | 0, _, h => h
  | k + 1, xs, h => rif_deck _ (riffles_deck k xs h)

/-! The model's forms. -/
theorem cut_spec (n : Nat) (xs : List Int) (hl : xs.length = 52) (hn : n ≤ 52) : xs.drop n ++ xs.take n = perm (cutF n) xs := by
  apply ix_ext
  · rw [perm_length, List.length_append, List.length_drop, List.length_take]; omega
  · intro i hi
    rw [List.length_append, List.length_drop, List.length_take] at hi
    rw [perm_ix _ _ i (by omega)]
    by_cases h : i < 52 - n
    · rw [ix_append_left _ _ _ (by rw [List.length_drop]; omega), ix_drop]
      congr 1; unfold cutF; omega
    · obtain ⟨j, rfl⟩ : ∃ j, i = (xs.drop n).length + j := ⟨i - (52 - n), by rw [List.length_drop]; omega⟩
      rw [List.length_drop] at hi
      rw [ix_append_right _ _ j (by rw [List.length_take]; omega), ix_take _ _ _ (by omega), List.length_drop]
      congr 1; unfold cutF; omega
theorem rif_two (k : Nat) (xs : List Int) (hk : k < 26) : (perm rifF xs).take (2 * (k + 1)) = (perm rifF xs).take (2 * k) ++ [ix xs k, ix xs (26 + k)] := by
  have e : 2 * (k + 1) = 2 * k + 1 + 1 := by omega
  have hl := perm_length rifF xs
  rw [e, take_snocI _ _ (by omega), take_snocI _ _ (by omega), List.append_assoc]
  rw [← ix_eq _ (2 * k) (by omega), ← ix_eq _ (2 * k + 1) (by omega), perm_ix _ _ _ (by omega), perm_ix _ _ _ (by omega)]
  have e1 : rifF (2 * k) = k := by unfold rifF; omega
  have e2 : rifF (2 * k + 1) = 26 + k := by unfold rifF; omega
  rw [e1, e2]
  rfl
theorem rif_all (xs : List Int) : (perm rifF xs).take (2 * 26) = perm rifF xs := List.take_of_length_le (by rw [perm_length]; omega)
/-- The cards for the upper half, those for the lower half. -/
def evens (k : Nat) (xs : List Int) : List Int := permN (fun p => 2 * p) k xs
def odds (k : Nat) (xs : List Int) : List Int := permN (fun p => 2 * p + 1) k xs
theorem halves (xs : List Int) : evens 26 xs ++ odds 26 xs = perm unrF xs := by
  unfold evens odds
  apply ix_ext
  · rw [perm_length, List.length_append, permN_length, permN_length]
  · intro i hi
    rw [List.length_append, permN_length, permN_length] at hi
    rw [perm_ix _ _ i (by omega)]
    by_cases h : i < 26
    · rw [ix_append_left _ _ _ (by rw [permN_length]; exact h), permN_ix _ _ _ _ h]
      congr 1; unfold unrF; omega
    · obtain ⟨j, rfl⟩ : ∃ j, i = (permN (fun p => 2 * p) 26 xs).length + j := ⟨i - 26, by rw [permN_length]; omega⟩
      rw [permN_length] at hi
      rw [ix_append_right _ _ j (by rw [permN_length]; omega), permN_ix _ _ _ _ (by omega), permN_length]
      congr 1; unfold unrF; omega

/-! Shuffles. -/
def nextS (s : Int) : Int := s * 48271 % 2147483647
theorem nextS_bd (s : Int) : 0 ≤ nextS s ∧ nextS s < 2147483647 := by unfold nextS; omega
/-- Two numbers change places. -/
def swapL (xs : List Int) (i k : Nat) : List Int := (xs.set i (ix xs k)).set k (ix xs i)
theorem swap_len (xs : List Int) (i k : Nat) : (swapL xs i k).length = xs.length := by simp [swapL]
theorem swap_perm (xs : List Int) (i k : Nat) (hl : xs.length = 52) (hi : i < 52) (hk : k < 52) : swapL xs i k = perm (fun p => if p = k then i else if p = i then k else p) xs := by
  unfold swapL
  apply ix_ext
  · rw [perm_length]; simpa using hl
  · intro p hp
    have hp' : p < 52 := by simpa [hl] using hp
    rw [perm_ix _ _ p hp']
    by_cases h : p = k
    · subst h
      rw [ix_set_same _ _ _ (by simpa [hl] using hp'), if_pos rfl]
    · rw [ix_set_other _ _ _ _ (fun e => h e.symm), if_neg h]
      by_cases h2 : p = i
      · subst h2
        rw [ix_set_same _ _ _ (by omega), if_pos rfl]
      · rw [ix_set_other _ _ _ _ (fun e => h2 e.symm), if_neg h2]
theorem swap_deck (xs : List Int) (i k : Nat) (h : deckB xs = true) (hi : i < 52) (hk : k < 52) : deckB (swapL xs i k) = true := by
  obtain ⟨hl, _⟩ := (deck_iff xs).1 h
  rw [swap_perm xs i k hl hi hk]
  exact perm_deck _ xs h (fun p hp => by split <;> (try split) <;> omega) (fun p q hp hq e => by
    split at e <;> split at e <;> (try split at e) <;> (try split at e) <;> omega)
/-- The shuffle from the index i down, with the seed s before it. -/
def shuf : Nat → Int → List Int → List Int
  | 0, _, xs => xs
  | i + 1, s, xs => shuf i (nextS s) (swapL xs (i + 1) (nextS s % ((i : Int) + 2)).toNat)
def sorted52 : List Int := (List.range 52).map (fun i : Nat => (i : Int))
theorem sorted_deck : deckB sorted52 = true := by decide +kernel
theorem shuf_deck : ∀ (i : Nat) (s : Int) (xs : List Int), i < 52 → deckB xs = true → deckB (shuf i s xs) = true
  | 0, _, _, _, h => h
  | i + 1, s, xs, hi, h => by
    have h1 := Int.emod_nonneg (nextS s) (b := (i : Int) + 2) (by omega)
    have h2 := Int.emod_lt_of_pos (nextS s) (b := (i : Int) + 2) (by omega)
    exact shuf_deck i _ _ (by omega) (swap_deck _ _ _ h hi (by omega))
def shuffled (s : Int) : List Int := shuf 51 s sorted52
theorem shuffled_deck (s : Int) : deckB (shuffled s) = true := shuf_deck 51 s _ (by omega) sorted_deck

/-! Places. -/
/-- The first place of a number from k on. -/
def placeOf (xs : List Int) (x : Int) : Nat := xs.idxOf x
theorem place_lt (xs : List Int) (x : Int) (h : x ∈ xs) : placeOf xs x < xs.length := List.idxOf_lt_length_of_mem h
theorem place_ix (xs : List Int) (x : Int) (h : x ∈ xs) : ix xs (placeOf xs x) = x := by
  have hl := place_lt xs x h
  rw [ix_eq _ _ hl]
  exact List.getElem_idxOf hl
theorem place_first (xs : List Int) (x : Int) (k : Nat) (hk : k < placeOf xs x) : ix xs k ≠ x := by
  intro e
  have hkl : k < xs.length := Nat.lt_of_lt_of_le hk List.idxOf_le_length
  rw [ix_eq xs k hkl] at e
  have := List.not_of_lt_findIdx (p := (· == x)) hk
  simp [e] at this

/-! Hands. -/
/-- The h-th of several hands. -/
def dealt (hands n h : Nat) (xs : List Int) : List Int := permN (fun k => k * hands + h) n xs
end Go.Proofs.YtcbfmfkahgfjkaaDoor
